/- How many bits a number has, by the specification and by the program. No condition. -/
import Derived.Test.YtfjoilkgpdepaaaN2
import Derived.Test.YtfjoilkgpdepaaaBL
namespace Go.Proofs.Ytfjoilkgpdepaaa
open Go.RowKit
set_option linter.unusedVariables false

theorem hlvI_zero : hlvI 0 = 0 := by decide
theorem hlvI_half {d : Int} (h : 0 < d) (h2 : d < 65536) : hlvI d = hlvI (d / 2) + 1 := by
  unfold hlvI
  have e := Lib.bitLen_half d.toNat (by omega) (by omega)
  have f : d.toNat / 2 = (d / 2).toNat := by omega
  rw [f] at e
  omega
def bitsN (xs : List Int) : Int := if xs.length = 0 then 0 else 16 * ((xs.length : Int) - 1) + hlvI (xs.getD (xs.length - 1) 0)
set_option maxHeartbeats 2000000 in
theorem sBits (a : Option Addr) (len cap : Nat) (xs : List Int) (w : World) (hR : InI w a len cap xs) (hdg : digs xs) (hl : len ≤ 1048576) :
    Calls Try.prog 45 #[.slice a len cap] w fun e w' => e = .returned (.int .i64 (bitsN xs)) ∧ w' = w := by
  have hp := hR.1
  by_cases h0 : len = 0
  · subst h0
    have e : bitsN xs = 0 := by unfold bitsN; rw [if_pos hp]
    rw [e]
    go_enter Try.func45, Try.ntmps45
    go_wp2
    go_ret
    exact ⟨rfl, rfl⟩
  obtain ⟨b, off, x, rfl, hbl, hx, -, c0⟩ := hR.at (k := len - 1) (by omega)
  have ek : ((len : Int) - 1) = ((len - 1 : Nat) : Int) := by omega
  have dx := hdg (len - 1) (by omega)
  rw [hx] at dx
  unfold dig at dx
  have e : bitsN xs = 16 * ((len : Int) - 1) + hlvI x := by unfold bitsN; rw [if_neg (by omega), hp, hx]
  have hbd := hlvI_bd (g := x) (by omega)
  generalize bitsN xs = r at *
  have h0' : ((len : Int) == 0) = false := by simp; omega
  go_enter Try.func45, Try.ntmps45
  have e' := hd e
  clear e hx hp
  go_wp2
  go_loopw [3, 4] (fun n d wr => ∃ (m y : Int), n = .int .i64 m ∧ d = .int .i64 y ∧ 0 ≤ y ∧ y < 65536 ∧ m + hlvI y = r ∧ (0 ≤ m ∧ m ≤ 33554432) ∧ wr = w) (fun _ d _ => (intOf d).toNat)
  case atStart =>
    refine ⟨_, x, rfl, rfl, by omega, by omega, by have := e'.out; omega, by omega, rfl⟩
  case round =>
    obtain ⟨m, y, rfl, rfl, hy0, hy1, hm, hm2, hw⟩ := hrel
    obtain rfl : w = wr := hw.symm
    clear hw
    by_cases hy : 0 < y
    · have hh := hlvI_half hy hy1
      have hb2 := hlvI_bd (g := y / 2) (by omega)
      have hr : r ≤ 33554432 := by have := e'.out; omega
      have hm' := hd hm
      have hh' := hd hh
      clear hm hh
      go_wp2
      go_roundw
      case rel => exact ⟨m + 1, y / 2, by go_num, by go_num, by omega, by omega, by have := hm'.out; have := hh'.out; omega, by have := hm'.out; have := hh'.out; omega, trivial⟩
      case measure => simp [intOf]; omega
    · obtain rfl : y = 0 := by omega
      rw [hlvI_zero] at hm
      have hm' := hd hm
      clear hm
      go_wp2
      go_ret
      exact ⟨retI (by have := hm'.out; omega), rfl⟩
set_option maxHeartbeats 1000000 in
theorem iLenU (x : Int) (h : 0 ≤ x ∧ x ≤ 18446744073709551615) (w : World) :
    Calls Try.prog 51 #[.int .u64 x] w fun e w' => e = .returned (.int .i64 (hlvI x)) ∧ w' = w := by
  have L := hd (iLen64 x h w)
  go_enter Try.func51, Try.ntmps51
  go_wp2_with fail
  refine L.out.mono ?_
  rintro e w1 ⟨rfl, rfl⟩
  go_wp2
  go_ret
  exact ⟨rfl, rfl⟩
set_option maxHeartbeats 2000000 in
theorem iLength (a : Option Addr) (len cap : Nat) (xs : List Int) (w : World) (hR : InI w a len cap xs) (hdg : digs xs) (hl : len ≤ 1048576) :
    Calls Try.prog 36 #[.slice a len cap] w fun e w' => e = .returned (.int .i64 (bitsN xs)) ∧ w' = w := by
  have hp := hR.1
  by_cases h0 : len = 0
  · subst h0
    have e : bitsN xs = 0 := by unfold bitsN; rw [if_pos hp]
    rw [e]
    go_enter Try.func36, Try.ntmps36
    go_wp2
    go_ret
    exact ⟨rfl, rfl⟩
  obtain ⟨b, off, x, rfl, hbl, hx, -, c0⟩ := hR.at (k := len - 1) (by omega)
  have ek : ((len : Int) - 1) = ((len - 1 : Nat) : Int) := by omega
  have dx := hdg (len - 1) (by omega)
  rw [hx] at dx
  unfold dig at dx
  have e : bitsN xs = 16 * ((len - 1 : Nat) : Int) + hlvI x := by unfold bitsN; rw [if_neg (by omega), hp, hx, ek]
  have hbd := hlvI_bd (g := x) (by omega)
  rw [e]
  have L := hd (iLenU x (by omega) w)
  clear e hx hp
  have h0' : ((len : Int) == 0) = false := by simp; omega
  generalize hlvI x = z at *
  go_enter Try.func36, Try.ntmps36
  go_wp2_with fail
  refine L.out.mono ?_
  rintro e w1 ⟨rfl, rfl⟩
  go_wp2
  go_ret
  exact ⟨rfl, rfl⟩
def nbits (xs : List Int) : Int := if natOk xs then bitsN xs else -1
set_option maxHeartbeats 2000000 in
theorem iNatBits (a : Option Addr) (len cap : Nat) (xs : List Int) (w : World) (hR : InI w a len cap xs) :
    Calls Try.prog 29 #[.slice a len cap] w fun e w' => e = .returned (.int .i64 (nbits xs)) ∧ w' = w := by
  have K1 := hd (iNatOk a len cap xs w hR)
  have hp := hR.1
  cases h1 : natOk xs
  · have e : nbits xs = -1 := by unfold nbits; rw [h1]; rfl
    rw [e]
    rw [h1] at K1
    clear e h1
    go_enter Try.func29, Try.ntmps29
    go_wp2_with fail
    refine K1.out.mono ?_
    rintro e w1 ⟨rfl, rfl⟩
    go_wp2
    go_ret
    exact ⟨rfl, rfl⟩
  rw [h1] at K1
  have e : nbits xs = bitsN xs := by unfold nbits; rw [h1]; rfl
  have q := natOk_in h1
  rw [e]
  have P := hd (iLength a len cap xs w hR q.2.1 (by omega))
  clear e h1 q hp
  generalize bitsN xs = z at *
  go_enter Try.func29, Try.ntmps29
  go_wp2_with fail
  refine K1.out.mono ?_
  rintro e w1 ⟨rfl, rfl⟩
  go_wp2_with fail
  refine P.out.mono ?_
  rintro e w1 ⟨rfl, rfl⟩
  go_wp2
  go_ret
  exact ⟨rfl, rfl⟩
set_option maxHeartbeats 2000000 in
theorem sNatBits (a : Option Addr) (len cap : Nat) (xs : List Int) (w : World) (hR : InI w a len cap xs) :
    Calls Try.prog 28 #[.slice a len cap] w fun e w' => e = .returned (.int .i64 (nbits xs)) ∧ w' = w := by
  have K1 := hd (sNatOk a len cap xs w hR)
  have hp := hR.1
  cases h1 : natOk xs
  · have e : nbits xs = -1 := by unfold nbits; rw [h1]; rfl
    rw [e]
    rw [h1] at K1
    clear e h1
    go_enter Try.func28, Try.ntmps28
    go_wp2_with fail
    refine K1.out.mono ?_
    rintro e w1 ⟨rfl, rfl⟩
    go_wp2
    go_ret
    exact ⟨rfl, rfl⟩
  rw [h1] at K1
  have e : nbits xs = bitsN xs := by unfold nbits; rw [h1]; rfl
  have q := natOk_in h1
  rw [e]
  have P := hd (sBits a len cap xs w hR q.2.1 (by omega))
  clear e h1 q hp
  generalize bitsN xs = z at *
  go_enter Try.func28, Try.ntmps28
  go_wp2_with fail
  refine K1.out.mono ?_
  rintro e w1 ⟨rfl, rfl⟩
  go_wp2_with fail
  refine P.out.mono ?_
  rintro e w1 ⟨rfl, rfl⟩
  go_wp2
  go_ret
  exact ⟨rfl, rfl⟩
end Go.Proofs.Ytfjoilkgpdepaaa
