/- The contract of the specification's BitWiden and l2Wide: 'widI', of every narrow float; nothing that was there is written. -/
import Derived.Test.YtekbhkklaogmnaaDoorW9
namespace Go.Proofs.YtekbhkklaogmnaaDoor
open Go.RowKit


theorem wid_val (r : Nat) (h0 : r ≠ 0) (h : r < 2139095040) (sz : Nat) (pw : Int) (hs : (sz : Int) = pSize 8388608 r) (hp : pw = pPow 8388608 (-149) r) :
    0 < sz ∧ sz < 16777216 ∧ -149 ≤ pw ∧ pw ≤ 104 ∧ (wid r : Int) = (pw - ((52 - sz.log2 : Nat) : Int) + 1074) * 4503599627370496 + ((sz * 2 ^ (52 - sz.log2) : Nat) : Int) := by
  by_cases h1 : r < 8388608
  · have e1 : sz = r := by unfold pSize at hs; rw [if_pos (by omega)] at hs; omega
    have e2 : pw = -149 := by unfold pPow at hp; rw [if_pos (by omega)] at hp; exact hp
    subst e1 e2
    have hl : sz.log2 < 23 := (Nat.log2_lt h0).2 h1
    refine ⟨by omega, by omega, by omega, by omega, ?_⟩
    rw [wid_small h0 h1]
    generalize sz * 2 ^ (52 - sz.log2) = x
    omega
  · have e1 : sz = 8388608 + r % 8388608 := by unfold pSize at hs; rw [if_neg (by omega)] at hs; omega
    have e2 : pw = -149 + ((r : Int) / 8388608 - 1) := by unfold pPow at hp; rw [if_neg (by omega)] at hp; exact hp
    have hl : sz.log2 = 23 := by rw [Nat.log2_eq_iff (by omega)]; omega
    refine ⟨by omega, by omega, by omega, by omega, ?_⟩
    rw [wid_common (by omega) h, hl]
    omega

end Go.Proofs.YtekbhkklaogmnaaDoor
