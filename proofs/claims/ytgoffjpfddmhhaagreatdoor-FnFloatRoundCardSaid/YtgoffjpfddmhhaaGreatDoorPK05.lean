/- How many halvings a number of 64 bits bears, by the library's table. No condition. -/
import Derived.Test.YtgoffjpfddmhhaaGreatDoorProg
import Derived.Lib.Strings
import Derived.Lib.Slices
import Derived.Lib.Small
import Derived.Lib.Walk
import Derived.Lib.BitFns
namespace Go.Proofs.YtgoffjpfddmhhaaGreatDoor

def hlvI (g : Int) : Int := (Lib.bitLen g.toNat : Nat)
theorem hlvI_bd {g : Int} (h : 0 ≤ g ∧ g ≤ 18446744073709551615) : 0 ≤ hlvI g ∧ hlvI g ≤ 64 := by
  have := Lib.bitLen_le g.toNat 64 (by omega) (by omega)
  unfold hlvI
  omega
theorem len_shift (k : Nat) (m : Nat) (hm : 2 ^ k = m) (x b : Int) (h0 : 0 ≤ x) (h1 : x ≤ 18446744073709551615) (hk : (m : Int) ≤ x) (hb : b = x / (m : Int)) (hb2 : b ≤ 255) : (k : Int) + Lib.len8 b = hlvI x := by
  subst hm
  have hp : 0 ≤ b := by rw [hb]; exact Int.ediv_nonneg h0 (Int.natCast_nonneg _)
  rw [Lib.len8_of b hp hb2]
  have e := Lib.bitLen_shift k x.toNat (by omega) (by omega)
  have f : b.toNat = x.toNat / 2 ^ k := by
    rw [hb]
    obtain ⟨n, rfl⟩ : ∃ n : Nat, x = n := ⟨x.toNat, by omega⟩
    rw [← Int.natCast_ediv]
    rfl
  unfold hlvI
  rw [e, f]
  omega
theorem len_none (x : Int) (h0 : 0 ≤ x) (h1 : x ≤ 255) : Lib.len8 x = hlvI x := Lib.len8_of x h0 h1

set_option maxHeartbeats 4000000 in
set_option maxRecDepth 100000 in
theorem iLen64 (x : Int) (h : 0 ≤ x ∧ x ≤ 18446744073709551615) (w : World) :
    Calls Tryz.prog 121 #[.int .u64 x] w fun e w' => e = .returned (.int .i64 (hlvI x)) ∧ w' = w := by
  have hbd := hlvI_bd h
  obtain ⟨h0, h1⟩ := h
  go_enter Tryz.func121, Tryz.ntmps121
  go_wp2
  all_goals (go_ret; refine ⟨congrArg Ending.returned (congrArg (Value.int IntKind.i64) ?_), rfl⟩)
  all_goals first
    | (have q := len_shift 56 72057594037927936 (by decide +kernel) x (x / 4294967296 / 65536 / 256 % 256) h0 h1 (by omega) (by omega) (by omega); omega)
    | (have q := len_shift 48 281474976710656 (by decide +kernel) x (x / 4294967296 / 65536 % 256) h0 h1 (by omega) (by omega) (by omega); omega)
    | (have q := len_shift 40 1099511627776 (by decide +kernel) x (x / 4294967296 / 256 % 256) h0 h1 (by omega) (by omega) (by omega); omega)
    | (have q := len_shift 32 4294967296 (by decide +kernel) x (x / 4294967296 % 256) h0 h1 (by omega) (by omega) (by omega); omega)
    | (have q := len_shift 24 16777216 (by decide +kernel) x (x / 65536 / 256 % 256) h0 h1 (by omega) (by omega) (by omega); omega)
    | (have q := len_shift 16 65536 (by decide +kernel) x (x / 65536 % 256) h0 h1 (by omega) (by omega) (by omega); omega)
    | (have q := len_shift 8 256 (by decide +kernel) x (x / 256 % 256) h0 h1 (by omega) (by omega) (by omega); omega)
    | (have q := len_none (x % 256) (by omega) (by omega); rw [show x % 256 = x by omega] at q ⊢; omega)
end Go.Proofs.YtgoffjpfddmhhaaGreatDoor
