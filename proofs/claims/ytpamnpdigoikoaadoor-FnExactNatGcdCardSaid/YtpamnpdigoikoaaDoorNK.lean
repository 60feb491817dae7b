/- How many bits a number has, by the specification and by the program. No condition. -/
import Derived.Test.YtpamnpdigoikoaaDoorN2
import Derived.Test.YtpamnpdigoikoaaDoorBL
namespace Go.Proofs.YtpamnpdigoikoaaDoor
open Go.RowKit
set_option linter.unusedVariables false
set_option maxRecDepth 100000

theorem hlvI_zero : hlvI 0 = 0 := by decide
theorem hlvI_half {d : Int} (h : 0 < d) (h2 : d < 65536) : hlvI d = hlvI (d / 2) + 1 := by
  unfold hlvI
  have e := Lib.bitLen_half d.toNat (by omega) (by omega)
  have f : d.toNat / 2 = (d / 2).toNat := by omega
  rw [f] at e
  omega
def bitsN (xs : List Int) : Int := if xs.length = 0 then 0 else 16 * ((xs.length : Int) - 1) + hlvI (xs.getD (xs.length - 1) 0)
set_option maxHeartbeats 1000000 in
theorem iLenU (x : Int) (h : 0 ≤ x ∧ x ≤ 18446744073709551615) (w : World) :
    Calls Tryd.prog 104 #[.int .u64 x] w fun e w' => e = .returned (.int .i64 (hlvI x)) ∧ w' = w := by
  have L := hd (iLen64 x h w)
  go_enter Tryd.func104, Tryd.ntmps104
  go_wp2_with fail
  refine L.out.mono ?_
  rintro e w1 ⟨rfl, rfl⟩
  go_wp2
  go_ret
  exact ⟨rfl, rfl⟩
set_option maxHeartbeats 2000000 in
theorem iLength (a : Option Addr) (len cap : Nat) (xs : List Int) (w : World) (hR : InI w a len cap xs) (hdg : digs xs) (hl : len ≤ 1048576) :
    Calls Tryd.prog 79 #[.slice a len cap] w fun e w' => e = .returned (.int .i64 (bitsN xs)) ∧ w' = w := by
  have hp := hR.1
  by_cases h0 : len = 0
  · subst h0
    have e : bitsN xs = 0 := by unfold bitsN; rw [if_pos hp]
    rw [e]
    go_enter Tryd.func79, Tryd.ntmps79
    go_wp2
    go_ret
    exact ⟨rfl, rfl⟩
  obtain ⟨b, off, x, rfl, hbl, hx, -, c0⟩ := hR.at (k := len - 1) (by omega)
  have ek : ((len : Int) - 1) = ((len - 1 : Nat) : Int) := by omega
  have dx := hdg (len - 1) (by omega)
  rw [hx] at dx
  unfold dig at dx
  have e : bitsN xs = 16 * ((len - 1 : Nat) : Int) + hlvI x := by unfold bitsN; rw [if_neg (by omega), hp, hx, ek]
  have hbd := hlvI_bd (g := x) (by omega)
  rw [e]
  have L := hd (iLenU x (by omega) w)
  clear e hx hp
  have h0' : ((len : Int) == 0) = false := by simp; omega
  generalize hlvI x = z at *
  go_enter Tryd.func79, Tryd.ntmps79
  go_wp2_with fail
  refine L.out.mono ?_
  rintro e w1 ⟨rfl, rfl⟩
  go_wp2
  go_ret
  exact ⟨rfl, rfl⟩
def nbits (xs : List Int) : Int := if natOk xs then bitsN xs else -1
end Go.Proofs.YtpamnpdigoikoaaDoor
