/- How many halvings a number of 64 bits bears, by the library's table. No condition. -/
import Derived.Test.YtpamnpdigoikoaaProg
import Derived.Lib.Strings
import Derived.Lib.Slices
import Derived.Lib.Small
import Derived.Lib.Walk
import Derived.Lib.BitFns
namespace Go.Proofs.Ytpamnpdigoikoaa

def hlvI (g : Int) : Int := (Lib.bitLen g.toNat : Nat)
theorem hlvI_bd {g : Int} (h : 0 ≤ g ∧ g ≤ 18446744073709551615) : 0 ≤ hlvI g ∧ hlvI g ≤ 64 := by
  have := Lib.bitLen_le g.toNat 64 (by omega) (by omega)
  unfold hlvI
  omega
theorem len_shift (k : Nat) (m : Nat) (hm : 2 ^ k = m) (x b : Int) (h0 : 0 ≤ x) (h1 : x ≤ 18446744073709551615) (hk : (m : Int) ≤ x) (hb : b = x / (m : Int)) (hb2 : b ≤ 255) : (k : Int) + Lib.len8 b = hlvI x := by
  subst hm
  have hp : 0 ≤ b := by rw [hb]; exact Int.ediv_nonneg h0 (Int.natCast_nonneg _)
  rw [Lib.len8_of b hp hb2]
  have e := Lib.bitLen_shift k x.toNat (by omega) (by omega)
  have f : b.toNat = x.toNat / 2 ^ k := by
    rw [hb]
    obtain ⟨n, rfl⟩ : ∃ n : Nat, x = n := ⟨x.toNat, by omega⟩
    rw [← Int.natCast_ediv]
    rfl
  unfold hlvI
  rw [e, f]
  omega
theorem len_none (x : Int) (h0 : 0 ≤ x) (h1 : x ≤ 255) : Lib.len8 x = hlvI x := Lib.len8_of x h0 h1

end Go.Proofs.Ytpamnpdigoikoaa
