/- Roots: the next number has room. -/
import Derived.Test.YthgdfijlnaaplaaUL
import Derived.Test.YthgdfijlnaaplaaUO
import Derived.Test.YthgdfijlnaaplaaBV
namespace Go.Proofs.Ythgdfijlnaaplaa
open Go.RowKit
set_option linter.unusedVariables false

theorem up_len {r X : Nat} (h : r * r ≤ X) (lx : (natL X).length ≤ 256) : (natL (r + 1)).length ≤ 256 := by
  have hx := natL_len.1 lx
  have hr : r < 65536 ^ 128 := by
    rcases Nat.lt_or_ge r (65536 ^ 128) with g | g
    · exact g
    · have h2 : 65536 ^ 128 * 65536 ^ 128 ≤ r * r := Nat.mul_le_mul g g
      rw [← Nat.pow_add] at h2
      exact absurd (Nat.lt_of_le_of_lt (Nat.le_trans h2 h) hx) (Nat.lt_irrefl _)
  exact Nat.le_trans (len_add1 (natL_len.2 hr)) (by omega)
theorem OI.inI1 {w : World} {base cv : Nat} {av : Option Addr} (h : OI w base av cv (natL 1)) : InI w av 1 cv (natL 1) := by
  have := h.inI
  rw [one_len] at this
  exact this
end Go.Proofs.Ythgdfijlnaaplaa
