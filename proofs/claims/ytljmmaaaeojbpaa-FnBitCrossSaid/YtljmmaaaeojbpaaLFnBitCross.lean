/- For every two codes of bytes: a wide float drawn lies between the narrow ones below and above it, which are one or next to one another; a narrow one comes back by both; what is widened keeps its order: the law answers true; nothing that was there is written. No condition. -/
import Derived.Test.YtljmmaaaeojbpaaRows
import Derived.WalkKit
import Derived.ProofKit
import Derived.OpenShut
import Derived.ShutString
import Derived.ChangeOld
import Derived.Below
import Derived.Deep.RegionHeld
import Derived.Test.YtljmmaaaeojbpaaX1
import Derived.Test.YtljmmaaaeojbpaaJ0
import Derived.Test.YtljmmaaaeojbpaaJ1
import Derived.Test.YtljmmaaaeojbpaaJ2
import Derived.Test.YtljmmaaaeojbpaaJ3
namespace Go.Proofs.Ytljmmaaaeojbpaa
open Go.ChangeShapes Go.WideShapes Go.ChangeAt Go.RowKit
open Go.ChangeMaps (open_string shut_string)
set_option linter.unusedVariables false

theorem FnBitCross_own : ownKnob Try.prog.godebug = none := by kernel_rfl
theorem FnBitCross_laidOut : laidOutB Try.prog = true := by kernel_rfl

/-- WHAT THE WALK IS TOLD OF A SLICE OF INTEGERS THAT CAME IN: it is nil; or it leads to a row of 'cap' cells, the numbers 'zs' (the first 'len' are its elements, the rest its spare room), each fitting its kind. -/
def IsRow (k : IntKind) (w : World) (a : Option Addr) (len cap : Nat) (zs : List Int) : Prop :=
  (a = none ∧ len = 0 ∧ cap = 0 ∧ zs = []) ∨
  ∃ x, a = some x ∧ len ≤ cap ∧ cap ≤ maxLen ∧ zs.length = cap ∧ (∀ i, i < zs.length → w.cell? (x.add i) = some (.int k (zs.getD i 0))) ∧ ∀ n ∈ zs, (Lit.int k n).wf = true

theorem row_code {w : World} {a : Option Addr} {len cap : Nat} {zs : List Int} (h : IsRow .u8 w a len cap zs) : IsCode w a len cap := by
  rcases h with ⟨rfl, rfl, rfl, rfl⟩ | ⟨x, rfl, hl, hm, hz, hcell, hwz⟩
  · exact ⟨by omega, by omega, .inl rfl⟩
  · unfold maxLen at hm
    refine ⟨hl, by omega, ?_⟩
    by_cases h0 : len = 0
    · exact .inl h0
    obtain ⟨b, off, spot⟩ := x
    have hc := hcell 0 (by omega)
    have hspot : spot = none := by simpa [Addr.add] using World.cell?_spot hc
    subst hspot
    have hb := World.block_lt_of_cell? w _ hc
    refine .inr ⟨b, off, rfl, by simpa [Addr.add] using hb, fun i hi => ?_⟩
    have hci := hcell i (by omega)
    have hw : (Lit.int .u8 (zs.getD i 0)).wf = true := by
      apply hwz
      rw [List.getD_eq_getElem?_getD, List.getElem?_eq_getElem (by omega)]
      exact List.getElem_mem _
    obtain ⟨z0, z1⟩ := bounds_u8 hw
    have e : (⟨b, off, none⟩ : Addr).add i = ⟨b, off + i, none⟩ := by
      by_cases h : i = 0
      · subst h; simp [Addr.add]
      · simp [Addr.add, h]
    rw [e] at hci
    exact ⟨_, z0, z1, hci⟩

set_option maxRecDepth 100000 in
set_option maxHeartbeats 4000000 in
theorem FnBitCross_walk (a0 : Option Addr) (len0 cap0 : Nat) (z0 : List Int) (a1 : Option Addr) (len1 cap1 : Nat) (z1 : List Int) (w : World) (w0 : IsRow .u8 w a0 len0 cap0 z0) (w1 : IsRow .u8 w a1 len1 cap1 z1) :
    Calls Try.prog 5 #[.slice a0 len0 cap0, .slice a1 len1 cap1] w fun e w' => e = .returned (.bool true) ∧ Below w.heap.size w w' := by
  have k0 := row_code w0
  have k1 := row_code w1
  clear w0 w1
  by_cases l0 : (1048576 : Int) < (len0 : Int)
  · have t0 : decide ((1048576 : Int) < (len0 : Int)) = true := by simp; omega
    go_enter Try.func5, Try.ntmps5
    go_wp2
    go_ret
    exact ⟨rfl, (by repeat (first | exact Below.refl _ _ | refine Below.drew ?_ | refine old_alloc ?_ _ | refine old_trans ?_ (by assumption)))⟩
  have t0 : decide ((1048576 : Int) < (len0 : Int)) = false := by simp; omega
  by_cases l1 : (1048576 : Int) < (len1 : Int)
  · have t1 : decide ((1048576 : Int) < (len1 : Int)) = true := by simp; omega
    go_enter Try.func5, Try.ntmps5
    go_wp2
    go_ret
    exact ⟨rfl, (by repeat (first | exact Below.refl _ _ | refine Below.drew ?_ | refine old_alloc ?_ _ | refine old_trans ?_ (by assumption)))⟩
  have t1 : decide ((1048576 : Int) < (len1 : Int)) = false := by simp; omega
  clear l0 l1
  go_enter Try.func5, Try.ntmps5
  go_wp2_with fail
  refine (drawBelow w a0 len0 cap0 k0).mono ?_
  rintro e w1 ⟨⟨n, ⟨n1, n2⟩, rfl⟩, hb1⟩
  replace k0 := k0.old hb1
  replace k1 := k1.old hb1
  by_cases c : -9218868437227405312 ≤ n ∧ n ≤ 9218868437227405312
  · obtain ⟨d1, d2⟩ := c
    go_wp2_with fail
    refine (iBitBelow n d1 d2 _).mono ?_
    rintro e w2 ⟨⟨lo, hlo, rfl⟩, hb2⟩
    go_wp2_with fail
    refine (iBitAbove n d1 d2 _).mono ?_
    rintro e w3 ⟨⟨h2, hh2, rfl⟩, hb3⟩
    obtain ⟨hi, eh, i1, i2, f1, f2, f3, f4, f5⟩ := cross hlo hh2
    rw [← eh]
    have lo1 := hlo.1
    have lo2 := hlo.2.1
    clear hlo hh2 eh
    go_wp2_with fail
    refine (sBitOk_64 n _ d1 d2).mono ?_
    rintro e w4 ⟨rfl, hb4⟩
    go_wp2_with fail
    refine (iBitWiden lo lo1 lo2 _).mono ?_
    rintro e w5 ⟨rfl, hb5⟩
    go_wp2_with fail
    refine (iBitWiden hi i1 i2 _).mono ?_
    rintro e w6 ⟨rfl, hb6⟩
    have u1 : decide (n < widI lo) = false := decide_eq_false (Int.not_lt.2 f1)
    have u2 : decide (widI hi < n) = false := decide_eq_false (Int.not_lt.2 f2)
    have u3 : (widI lo == n && lo != hi) = false := by
      by_cases c : widI lo = n
      · simp [f3 c]
      · simp [c]
    have u4 : decide (1 < hi - lo) = false := by clear u1 u2 u3 f1 f2 f3; simp; omega
    have u5 : decide (hi < lo) = false := by clear u1 u2 u3 f1 f2 f3; simp; omega
    have K0 := ((((k0.old hb2).old hb3).old hb4).old hb5).old hb6
    have K1 := ((((k1.old hb2).old hb3).old hb4).old hb5).old hb6
    clear k0 k1 f1 f2 f4 f5
    by_cases ce : widI lo = n
    · have u6 : (widI lo == n) = true := by simpa using ce
      have u7 : (lo != hi) = false := by rw [f3 ce]; simp
      clear ce f3 u3
      generalize widI lo = LO at *
      generalize widI hi = HI at *
      have k0 := K0
      have k1 := K1
      clear K0 K1
      go_wp2_with fail
      refine (drawWiden _ a0 len0 cap0 k0).mono ?_
      rintro e w20 ⟨⟨s, ⟨s1, s2⟩, rfl⟩, hb20⟩
      replace k1 := k1.old hb20
      go_wp2_with fail
      refine (drawWiden _ a1 len1 cap1 k1).mono ?_
      rintro e w21 ⟨⟨t, ⟨t1', t2'⟩, rfl⟩, hb21⟩
      clear k0 k1
      by_cases sc : -2139095040 ≤ s ∧ s ≤ 2139095040
      · obtain ⟨sa, sb⟩ := sc
        by_cases tc : -2139095040 ≤ t ∧ t ≤ 2139095040
        · obtain ⟨ta, tb⟩ := tc
          go_wp2_with fail
          refine (iBitWiden s sa sb _).mono ?_
          rintro e w22 ⟨rfl, hb22⟩
          go_wp2_with fail
          refine (iBitWiden t ta tb _).mono ?_
          rintro e w23 ⟨rfl, hb23⟩
          go_wp2_with fail
          refine (sBitOk_32 s _ sa sb).mono ?_
          rintro e w24 ⟨rfl, hb24⟩
          go_wp2_with fail
          refine (sBitOk_32 t _ ta tb).mono ?_
          rintro e w25 ⟨rfl, hb25⟩
          obtain ⟨v1, v2⟩ := widI_bd sa sb
          go_wp2_with fail
          refine (iBitBelow (widI s) v1 v2 _).mono ?_
          rintro e w26 ⟨⟨p, hp, rfl⟩, hb26⟩
          obtain rfl := back_below sa sb hp
          clear hp
          go_wp2_with fail
          refine (iBitAbove (widI p) v1 v2 _).mono ?_
          rintro e w27 ⟨⟨q, hq, rfl⟩, hb27⟩
          have eq := back_above sa sb hq
          rw [eq]
          clear hq eq
          have ef := widI_iff sa sb ta tb
          generalize widI p = A at *
          generalize widI t = B at *
          go_wp2
          go_ret
          exact ⟨ret_bool (by simp), (by repeat (first | exact Below.refl _ _ | refine Below.drew ?_ | refine old_alloc ?_ _ | refine old_trans ?_ (by assumption)))⟩
        · go_wp2_with fail
          refine (iBitWiden s sa sb _).mono ?_
          rintro e w22 ⟨rfl, hb22⟩
          go_wp2_with fail
          refine (iBitWiden_out t tc _).mono ?_
          rintro e w23 ⟨rfl, hb23⟩
          go_wp2_with fail
          refine (sBitOk_32 s _ sa sb).mono ?_
          rintro e w24 ⟨rfl, hb24⟩
          go_wp2_with fail
          refine (sBitOk_32_out t _ tc).mono ?_
          rintro e w25 ⟨rfl, hb25⟩
          obtain ⟨v1, v2⟩ := widI_bd sa sb
          go_wp2_with fail
          refine (iBitBelow (widI s) v1 v2 _).mono ?_
          rintro e w26 ⟨⟨p, hp, rfl⟩, hb26⟩
          obtain rfl := back_below sa sb hp
          clear hp
          go_wp2_with fail
          refine (iBitAbove (widI p) v1 v2 _).mono ?_
          rintro e w27 ⟨⟨q, hq, rfl⟩, hb27⟩
          have eq := back_above sa sb hq
          rw [eq]
          clear hq eq
          generalize widI p = A at *
          go_wp2
          go_ret
          exact ⟨rfl, (by repeat (first | exact Below.refl _ _ | refine Below.drew ?_ | refine old_alloc ?_ _ | refine old_trans ?_ (by assumption)))⟩
      · by_cases tc : -2139095040 ≤ t ∧ t ≤ 2139095040
        · obtain ⟨ta, tb⟩ := tc
          go_wp2_with fail
          refine (iBitWiden_out s sc _).mono ?_
          rintro e w22 ⟨rfl, hb22⟩
          go_wp2_with fail
          refine (iBitWiden t ta tb _).mono ?_
          rintro e w23 ⟨rfl, hb23⟩
          go_wp2_with fail
          refine (sBitOk_32_out s _ sc).mono ?_
          rintro e w24 ⟨rfl, hb24⟩
          go_wp2_with fail
          refine (sBitOk_32 t _ ta tb).mono ?_
          rintro e w25 ⟨rfl, hb25⟩
          go_wp2
          go_ret
          exact ⟨rfl, (by repeat (first | exact Below.refl _ _ | refine Below.drew ?_ | refine old_alloc ?_ _ | refine old_trans ?_ (by assumption)))⟩
        · go_wp2_with fail
          refine (iBitWiden_out s sc _).mono ?_
          rintro e w22 ⟨rfl, hb22⟩
          go_wp2_with fail
          refine (iBitWiden_out t tc _).mono ?_
          rintro e w23 ⟨rfl, hb23⟩
          go_wp2_with fail
          refine (sBitOk_32_out s _ sc).mono ?_
          rintro e w24 ⟨rfl, hb24⟩
          go_wp2_with fail
          refine (sBitOk_32_out t _ tc).mono ?_
          rintro e w25 ⟨rfl, hb25⟩
          go_wp2
          go_ret
          exact ⟨rfl, (by repeat (first | exact Below.refl _ _ | refine Below.drew ?_ | refine old_alloc ?_ _ | refine old_trans ?_ (by assumption)))⟩
    · have u6 : (widI lo == n) = false := by simpa using ce
      clear ce f3 u3
      generalize widI lo = LO at *
      generalize widI hi = HI at *
      have k0 := K0
      have k1 := K1
      clear K0 K1
      go_wp2_with fail
      refine (drawWiden _ a0 len0 cap0 k0).mono ?_
      rintro e w20 ⟨⟨s, ⟨s1, s2⟩, rfl⟩, hb20⟩
      replace k1 := k1.old hb20
      go_wp2_with fail
      refine (drawWiden _ a1 len1 cap1 k1).mono ?_
      rintro e w21 ⟨⟨t, ⟨t1', t2'⟩, rfl⟩, hb21⟩
      clear k0 k1
      by_cases sc : -2139095040 ≤ s ∧ s ≤ 2139095040
      · obtain ⟨sa, sb⟩ := sc
        by_cases tc : -2139095040 ≤ t ∧ t ≤ 2139095040
        · obtain ⟨ta, tb⟩ := tc
          go_wp2_with fail
          refine (iBitWiden s sa sb _).mono ?_
          rintro e w22 ⟨rfl, hb22⟩
          go_wp2_with fail
          refine (iBitWiden t ta tb _).mono ?_
          rintro e w23 ⟨rfl, hb23⟩
          go_wp2_with fail
          refine (sBitOk_32 s _ sa sb).mono ?_
          rintro e w24 ⟨rfl, hb24⟩
          go_wp2_with fail
          refine (sBitOk_32 t _ ta tb).mono ?_
          rintro e w25 ⟨rfl, hb25⟩
          obtain ⟨v1, v2⟩ := widI_bd sa sb
          go_wp2_with fail
          refine (iBitBelow (widI s) v1 v2 _).mono ?_
          rintro e w26 ⟨⟨p, hp, rfl⟩, hb26⟩
          obtain rfl := back_below sa sb hp
          clear hp
          go_wp2_with fail
          refine (iBitAbove (widI p) v1 v2 _).mono ?_
          rintro e w27 ⟨⟨q, hq, rfl⟩, hb27⟩
          have eq := back_above sa sb hq
          rw [eq]
          clear hq eq
          have ef := widI_iff sa sb ta tb
          generalize widI p = A at *
          generalize widI t = B at *
          go_wp2
          go_ret
          exact ⟨ret_bool (by simp), (by repeat (first | exact Below.refl _ _ | refine Below.drew ?_ | refine old_alloc ?_ _ | refine old_trans ?_ (by assumption)))⟩
        · go_wp2_with fail
          refine (iBitWiden s sa sb _).mono ?_
          rintro e w22 ⟨rfl, hb22⟩
          go_wp2_with fail
          refine (iBitWiden_out t tc _).mono ?_
          rintro e w23 ⟨rfl, hb23⟩
          go_wp2_with fail
          refine (sBitOk_32 s _ sa sb).mono ?_
          rintro e w24 ⟨rfl, hb24⟩
          go_wp2_with fail
          refine (sBitOk_32_out t _ tc).mono ?_
          rintro e w25 ⟨rfl, hb25⟩
          obtain ⟨v1, v2⟩ := widI_bd sa sb
          go_wp2_with fail
          refine (iBitBelow (widI s) v1 v2 _).mono ?_
          rintro e w26 ⟨⟨p, hp, rfl⟩, hb26⟩
          obtain rfl := back_below sa sb hp
          clear hp
          go_wp2_with fail
          refine (iBitAbove (widI p) v1 v2 _).mono ?_
          rintro e w27 ⟨⟨q, hq, rfl⟩, hb27⟩
          have eq := back_above sa sb hq
          rw [eq]
          clear hq eq
          generalize widI p = A at *
          go_wp2
          go_ret
          exact ⟨rfl, (by repeat (first | exact Below.refl _ _ | refine Below.drew ?_ | refine old_alloc ?_ _ | refine old_trans ?_ (by assumption)))⟩
      · by_cases tc : -2139095040 ≤ t ∧ t ≤ 2139095040
        · obtain ⟨ta, tb⟩ := tc
          go_wp2_with fail
          refine (iBitWiden_out s sc _).mono ?_
          rintro e w22 ⟨rfl, hb22⟩
          go_wp2_with fail
          refine (iBitWiden t ta tb _).mono ?_
          rintro e w23 ⟨rfl, hb23⟩
          go_wp2_with fail
          refine (sBitOk_32_out s _ sc).mono ?_
          rintro e w24 ⟨rfl, hb24⟩
          go_wp2_with fail
          refine (sBitOk_32 t _ ta tb).mono ?_
          rintro e w25 ⟨rfl, hb25⟩
          go_wp2
          go_ret
          exact ⟨rfl, (by repeat (first | exact Below.refl _ _ | refine Below.drew ?_ | refine old_alloc ?_ _ | refine old_trans ?_ (by assumption)))⟩
        · go_wp2_with fail
          refine (iBitWiden_out s sc _).mono ?_
          rintro e w22 ⟨rfl, hb22⟩
          go_wp2_with fail
          refine (iBitWiden_out t tc _).mono ?_
          rintro e w23 ⟨rfl, hb23⟩
          go_wp2_with fail
          refine (sBitOk_32_out s _ sc).mono ?_
          rintro e w24 ⟨rfl, hb24⟩
          go_wp2_with fail
          refine (sBitOk_32_out t _ tc).mono ?_
          rintro e w25 ⟨rfl, hb25⟩
          go_wp2
          go_ret
          exact ⟨rfl, (by repeat (first | exact Below.refl _ _ | refine Below.drew ?_ | refine old_alloc ?_ _ | refine old_trans ?_ (by assumption)))⟩
  · go_wp2_with fail
    refine (iBitBelow_out n c _).mono ?_
    rintro e w2 ⟨rfl, hb2⟩
    go_wp2_with fail
    refine (iBitAbove_out n c _).mono ?_
    rintro e w3 ⟨rfl, hb3⟩
    go_wp2_with fail
    refine (sBitOk_64_out n _ c).mono ?_
    rintro e w4 ⟨rfl, hb4⟩
    replace k0 := ((k0.old hb2).old hb3).old hb4
    replace k1 := ((k1.old hb2).old hb3).old hb4
    go_wp2_with fail
    refine (drawWiden _ a0 len0 cap0 k0).mono ?_
    rintro e w20 ⟨⟨s, ⟨s1, s2⟩, rfl⟩, hb20⟩
    replace k1 := k1.old hb20
    go_wp2_with fail
    refine (drawWiden _ a1 len1 cap1 k1).mono ?_
    rintro e w21 ⟨⟨t, ⟨t1', t2'⟩, rfl⟩, hb21⟩
    clear k0 k1
    by_cases sc : -2139095040 ≤ s ∧ s ≤ 2139095040
    · obtain ⟨sa, sb⟩ := sc
      by_cases tc : -2139095040 ≤ t ∧ t ≤ 2139095040
      · obtain ⟨ta, tb⟩ := tc
        go_wp2_with fail
        refine (iBitWiden s sa sb _).mono ?_
        rintro e w22 ⟨rfl, hb22⟩
        go_wp2_with fail
        refine (iBitWiden t ta tb _).mono ?_
        rintro e w23 ⟨rfl, hb23⟩
        go_wp2_with fail
        refine (sBitOk_32 s _ sa sb).mono ?_
        rintro e w24 ⟨rfl, hb24⟩
        go_wp2_with fail
        refine (sBitOk_32 t _ ta tb).mono ?_
        rintro e w25 ⟨rfl, hb25⟩
        obtain ⟨v1, v2⟩ := widI_bd sa sb
        go_wp2_with fail
        refine (iBitBelow (widI s) v1 v2 _).mono ?_
        rintro e w26 ⟨⟨p, hp, rfl⟩, hb26⟩
        obtain rfl := back_below sa sb hp
        clear hp
        go_wp2_with fail
        refine (iBitAbove (widI p) v1 v2 _).mono ?_
        rintro e w27 ⟨⟨q, hq, rfl⟩, hb27⟩
        have eq := back_above sa sb hq
        rw [eq]
        clear hq eq
        have ef := widI_iff sa sb ta tb
        generalize widI p = A at *
        generalize widI t = B at *
        go_wp2
        go_ret
        exact ⟨ret_bool (by simp), (by repeat (first | exact Below.refl _ _ | refine Below.drew ?_ | refine old_alloc ?_ _ | refine old_trans ?_ (by assumption)))⟩
      · go_wp2_with fail
        refine (iBitWiden s sa sb _).mono ?_
        rintro e w22 ⟨rfl, hb22⟩
        go_wp2_with fail
        refine (iBitWiden_out t tc _).mono ?_
        rintro e w23 ⟨rfl, hb23⟩
        go_wp2_with fail
        refine (sBitOk_32 s _ sa sb).mono ?_
        rintro e w24 ⟨rfl, hb24⟩
        go_wp2_with fail
        refine (sBitOk_32_out t _ tc).mono ?_
        rintro e w25 ⟨rfl, hb25⟩
        obtain ⟨v1, v2⟩ := widI_bd sa sb
        go_wp2_with fail
        refine (iBitBelow (widI s) v1 v2 _).mono ?_
        rintro e w26 ⟨⟨p, hp, rfl⟩, hb26⟩
        obtain rfl := back_below sa sb hp
        clear hp
        go_wp2_with fail
        refine (iBitAbove (widI p) v1 v2 _).mono ?_
        rintro e w27 ⟨⟨q, hq, rfl⟩, hb27⟩
        have eq := back_above sa sb hq
        rw [eq]
        clear hq eq
        generalize widI p = A at *
        go_wp2
        go_ret
        exact ⟨rfl, (by repeat (first | exact Below.refl _ _ | refine Below.drew ?_ | refine old_alloc ?_ _ | refine old_trans ?_ (by assumption)))⟩
    · by_cases tc : -2139095040 ≤ t ∧ t ≤ 2139095040
      · obtain ⟨ta, tb⟩ := tc
        go_wp2_with fail
        refine (iBitWiden_out s sc _).mono ?_
        rintro e w22 ⟨rfl, hb22⟩
        go_wp2_with fail
        refine (iBitWiden t ta tb _).mono ?_
        rintro e w23 ⟨rfl, hb23⟩
        go_wp2_with fail
        refine (sBitOk_32_out s _ sc).mono ?_
        rintro e w24 ⟨rfl, hb24⟩
        go_wp2_with fail
        refine (sBitOk_32 t _ ta tb).mono ?_
        rintro e w25 ⟨rfl, hb25⟩
        go_wp2
        go_ret
        exact ⟨rfl, (by repeat (first | exact Below.refl _ _ | refine Below.drew ?_ | refine old_alloc ?_ _ | refine old_trans ?_ (by assumption)))⟩
      · go_wp2_with fail
        refine (iBitWiden_out s sc _).mono ?_
        rintro e w22 ⟨rfl, hb22⟩
        go_wp2_with fail
        refine (iBitWiden_out t tc _).mono ?_
        rintro e w23 ⟨rfl, hb23⟩
        go_wp2_with fail
        refine (sBitOk_32_out s _ sc).mono ?_
        rintro e w24 ⟨rfl, hb24⟩
        go_wp2_with fail
        refine (sBitOk_32_out t _ tc).mono ?_
        rintro e w25 ⟨rfl, hb25⟩
        go_wp2
        go_ret
        exact ⟨rfl, (by repeat (first | exact Below.refl _ _ | refine Below.drew ?_ | refine old_alloc ?_ _ | refine old_trans ?_ (by assumption)))⟩
set_option maxRecDepth 100000 in
theorem FnBitCross_lifted (os : Os) (started : os.Started) (H : Type) (enc : TypeId × Value → H) :
    ReturnsInHanded {} Try.checked os 5 .any (Rows.fnBitCrossSpec.pre6 enc Try.prog Try.f5 Rows.fnBitCrossRow.domain false) (Rows.fnBitCrossSpec.post enc Try.prog Try.f5 false true false false) := by
  refine returnsInHanded_of_change (C := Try.checked) FnBitCross_own started (by kernel_rfl) Try.func5
    (ChangeSpec.witness6 (enc := enc) (C := Try.checked) false ⟨#[], #[.slice none 0 0, .slice none 0 0], []⟩ 8 (by kernel_rfl) (by kernel_rfl) (by kernel_rfl) (by kernel_rfl)) ?_
  intro W base args ds gs before hval0 hW hcnd _
  have hval : ∀ (j : Nat) t v, Try.f5.params[j]? = some t → args[j]? = some v → Value.okWide Try.prog W .any base t v := hval0
  have hW' := hW
  obtain ⟨p, q, hA0, hV, rfl, hfz, hnd⟩ := hW
  have hA : DataW.TrodAll enc Try.prog W 0 (fun _ => true) true Try.f5.params.toList args.toList ds p := hA0
  rw [Try.params5] at hA hval
  obtain ⟨v0, vs0, d0, ds0, p0, q0, hargs, rfl, rfl, h0, r0⟩ := trodAll_cons hA
  obtain ⟨v1, vs1, d1, ds1, p1, q1, rfl, rfl, rfl, h1, r1⟩ := trodAll_cons r0
  obtain ⟨rfl, rfl, rfl⟩ := trodAll_nil r1
  obtain rfl : args = #[v0, v1] := by cases args; simp_all
  obtain ⟨rfl, rfl⟩ := trodVars_none hV
  obtain ⟨a0, len0, cap0, rfl⟩ := okWide_slice Try.underlying22 (hval 0 22 v0 rfl rfl)
  have k0 := h0
  have lt0 : ∀ x ∈ p0, x.block < W.heap.size := by obtain ⟨m, hm⟩ := k0; exact DataW.trod_lt m _ _ _ hm
  obtain ⟨z0, w0⟩ : ∃ zs, IsRow .u8 W a0 len0 cap0 zs := by
    obtain ⟨fuel, hf⟩ := h0
    rcases open_ints Try.underlying22 Try.underlying5 (by kernel_rfl) hf with ⟨hcs, _⟩ | ⟨x, l, c, zs, hcs, _, hl, hm, hz, _, hcell, hwz⟩
    · simp [Value.cells] at hcs
      obtain ⟨rfl, rfl, rfl⟩ := hcs
      exact ⟨[], .inl ⟨rfl, rfl, rfl, rfl⟩⟩
    · simp [Value.cells] at hcs
      obtain ⟨rfl, rfl, rfl⟩ := hcs
      exact ⟨zs, .inr ⟨_, rfl, hl, hm, by simpa using hz, hcell, hwz⟩⟩
  obtain ⟨a1, len1, cap1, rfl⟩ := okWide_slice Try.underlying22 (hval 1 22 v1 rfl rfl)
  have k1 := h1
  have lt1 : ∀ x ∈ p1, x.block < W.heap.size := by obtain ⟨m, hm⟩ := k1; exact DataW.trod_lt m _ _ _ hm
  obtain ⟨z1, w1⟩ : ∃ zs, IsRow .u8 W a1 len1 cap1 zs := by
    obtain ⟨fuel, hf⟩ := h1
    rcases open_ints Try.underlying22 Try.underlying5 (by kernel_rfl) hf with ⟨hcs, _⟩ | ⟨x, l, c, zs, hcs, _, hl, hm, hz, _, hcell, hwz⟩
    · simp [Value.cells] at hcs
      obtain ⟨rfl, rfl, rfl⟩ := hcs
      exact ⟨[], .inl ⟨rfl, rfl, rfl, rfl⟩⟩
    · simp [Value.cells] at hcs
      obtain ⟨rfl, rfl, rfl⟩ := hcs
      exact ⟨zs, .inr ⟨_, rfl, hl, hm, by simpa using hz, hcell, hwz⟩⟩
  clear hA0 hval0
  refine (FnBitCross_walk a0 len0 cap0 z0 a1 len1 cap1 z1 W w0 w1).mono fun e W' ⟨he, bel⟩ => ?_
  subst he
  exact ⟨_, rfl, _, _, _, [], _, [], hW', trodAll_mk1 (shut_bool Try.underlying4 _), (trodAll_cons_mk (Below.trod FnBitCross_laidOut (by kernel_rfl) (of_decide_eq_true (by kernel_rfl)) k0 bel lt0) (trodAll_cons_mk (Below.trod FnBitCross_laidOut (by kernel_rfl) (of_decide_eq_true (by kernel_rfl)) k1 bel lt1) trodAll_mk0)), rfl, bel.frame _, fun h => by cases h⟩

theorem FnBitCross_k0 : (Rows.fnBitCrossRow.wf (OpenSpec.ofChange Rows.fnBitCrossSpec)) = true := by kernel_rfl
theorem FnBitCross_k3 : (Try.f5.params.all (Try.prog.readableRec ·)) = true := by kernel_rfl
theorem FnBitCross_k4 : (namedTie Try.prog Rows.fnBitCrossRow.named Rows.fnBitCrossSpec.vars) = true := by kernel_rfl
theorem FnBitCross_k5 : ((Rows.fnBitCrossRow.stops == [])) = true := by kernel_rfl
theorem FnBitCross_k7 : ((Rows.fnBitCrossRow.knobs == [])) = true := by kernel_rfl
theorem FnBitCross_k9 : ((Rows.fnBitCrossRow.inPlace == Try.prog.inPlace 5)) = true := by kernel_rfl
theorem FnBitCross_k10 : ((Rows.fnBitCrossRow.unfollowed == Try.prog.unfollowed 5)) = true := by kernel_rfl
theorem FnBitCross_k11 : ((Rows.fnBitCrossRow.recurses == Try.prog.recurses 5)) = true := by kernel_rfl
theorem FnBitCross_k12 : ((Rows.fnBitCrossRow.named == Try.prog.varsNamed 5)) = true := by kernel_rfl
theorem FnBitCross_k13 : ((Rows.fnBitCrossRow.maps == (Try.f5.params.toList ++ Rows.fnBitCrossSpec.plain.varTypes Try.prog).any (Try.prog.mapsRec ·))) = true := by kernel_rfl
theorem FnBitCross_k14 : ((Rows.fnBitCrossRow.ifaces == (Try.f5.params.toList ++ Rows.fnBitCrossSpec.plain.varTypes Try.prog).any (Try.prog.ifacesRec ·))) = true := by kernel_rfl
theorem FnBitCross_k15 : ((Rows.fnBitCrossRow.mapsOut == Try.prog.mapsAmong Try.f5.resultTypes.toList)) = true := by kernel_rfl
theorem FnBitCross_k16 : ((Rows.fnBitCrossRow.loops == (Try.f5.params.toList ++ Rows.fnBitCrossSpec.plain.varTypes Try.prog).any (Try.prog.loopsFrom ·))) = true := by kernel_rfl
theorem FnBitCross_k17 : ((Rows.fnBitCrossRow.wideKeys == (Try.f5.params.toList ++ Rows.fnBitCrossSpec.plain.varTypes Try.prog ++ Try.f5.resultTypes.toList).any (Try.prog.wideKeysFrom ·))) = true := by kernel_rfl
theorem FnBitCross_k18 : (Rows.fnBitCrossSpec.vars.all (Try.prog.varReadable ·)) = true := by kernel_rfl
theorem FnBitCross_k19 : (Try.f5.resultTypes.all (fun t => Try.prog.readableRec t && decide (t < Try.prog.types.size))) = true := by kernel_rfl
theorem FnBitCross_k20 : ((Rows.fnBitCrossRow.ifacesOut == Try.f5.resultTypes.toList.any (Try.prog.ifacesRec ·))) = true := by kernel_rfl
theorem FnBitCross_k21 : ((Rows.fnBitCrossRow.loopsOut == Try.f5.resultTypes.toList.any (Try.prog.loopsFrom ·))) = true := by kernel_rfl
theorem FnBitCross_k23 : (Rows.fnBitCrossRow.shortTexts.isNone) = true := by kernel_rfl
theorem FnBitCross_k28 : ((Rows.fnBitCrossRow.kinds == (if Rows.fnBitCrossRow.domain.isEmpty then [] else Try.f5.params.toList.map fun t => match Try.prog.underlying t with | some (.int k) => some k | _ => none))) = true := by kernel_rfl
theorem FnBitCross_k29 : ((Rows.fnBitCrossRow.pinned == Rows.fnBitCrossRow.pinnedBy)) = true := by kernel_rfl
theorem FnBitCross_k30 : ((Rows.fnBitCrossRow.veiled == (Try.f5.params.toList ++ Rows.fnBitCrossSpec.plain.varTypes Try.prog ++ Try.f5.resultTypes.toList).any (Try.prog.veiledRec ·))) = true := by kernel_rfl
theorem FnBitCross_k31 : (Rows.fnBitCrossRow.veiledFits Try.prog Try.f5.params.toList (Try.f5.params.toList ++ Rows.fnBitCrossSpec.plain.varTypes Try.prog ++ Try.f5.resultTypes.toList)) = true := by kernel_rfl
theorem FnBitCross_closed : joinedFacts Try.prog 5 Try.f5 Rows.fnBitCrossSpec Rows.fnBitCrossRow = true := (and2 (and2 (and2 (and2 (and2 (and2 (and2 (and2 (and2 (and2 (and2 (and2 (and2 (and2 (and2 (and2 (and2 (and2 (and2 (and2 (and2 (and2 (and2 (and2 (and2 (and2 (and2 (and2 (and2 (and2 (and2 FnBitCross_k0 jf1) jf2) FnBitCross_k3) FnBitCross_k4) FnBitCross_k5) jf6) FnBitCross_k7) jf8) FnBitCross_k9) FnBitCross_k10) FnBitCross_k11) FnBitCross_k12) FnBitCross_k13) FnBitCross_k14) FnBitCross_k15) FnBitCross_k16) FnBitCross_k17) FnBitCross_k18) FnBitCross_k19) FnBitCross_k20) FnBitCross_k21) jf22) FnBitCross_k23) jf24) jf25) jf26) jf27) FnBitCross_k28) FnBitCross_k29) FnBitCross_k30) FnBitCross_k31)
theorem FnBitCross_over : Rows.fnBitCrossRow.holds Try.pinned (OpenSpec.ofChange Rows.fnBitCrossSpec) :=
  OpenClaim.holds_of_wide 5 Try.f5 rfl rfl rfl rfl rfl rfl rfl ⟨rfl, rfl, rfl, rfl, rfl⟩ rfl rfl rfl rfl rfl (by kernel_rfl) Try.func5 FnBitCross_closed
    (of_decide_eq_true (by kernel_rfl)) (by unfold Func.isWrapper; first | (rw [if_pos (by decide +kernel)]; kernel_rfl) | (rw [if_neg (by decide +kernel)]; exact ⟨rfl, rfl⟩))
    (fun os started H enc _ => FnBitCross_lifted os started H enc)

theorem FnBitCross_proved : Rows.FnBitCrossSaid := FnBitCross_over
end Go.Proofs.Ytljmmaaaeojbpaa
