/- A box within another one: it has no more units, no longer a path, and is fine where that one is; what two boxes have in common lies in both. No condition. -/
import Derived.Test.YtpnfkigeagbhpaaPK17
import Derived.Test.YtpnfkigeagbhpaaPK15
import Derived.Test.YtpnfkigeagbhpaaPK22
namespace Go.Proofs.Ytpnfkigeagbhpaa
open Go.RowKit
set_option linter.unusedVariables false
set_option maxRecDepth 100000

theorem hlvI_mono : ∀ (n : Nat) (g h : Int), 0 ≤ g → g ≤ h → h ≤ 18446744073709551615 → g ≤ n → hlvI g ≤ hlvI h
  | 0, g, h, h0, h1, h2, hn => by
    obtain rfl : g = 0 := by omega
    have := hlvI_bd (g := h) ⟨by omega, h2⟩
    rw [hlvI_zero]
    exact this.1
  | n + 1, g, h, h0, h1, h2, hn => by
    by_cases e : g = 0
    · subst e
      have := hlvI_bd (g := h) ⟨by omega, h2⟩
      rw [hlvI_zero]
      exact this.1
    · rw [hlvI_half (g := g) (by omega) (by omega), hlvI_half (g := h) (by omega) h2]
      have := hlvI_mono n (g / 2) (h / 2) (by omega) (by omega) (by omega) (by omega)
      omega
theorem hlvI_le {g h : Int} (h0 : 0 ≤ g) (h1 : g ≤ h) (h2 : h ≤ 18446744073709551615) : hlvI g ≤ hlvI h := hlvI_mono g.toNat g h h0 h1 h2 (by omega)
theorem okRow_in {wd : Int} {ps : List (Int × Int)} (h : okRow wd ps = true) {k : Nat} (hk : k < ps.length) : gapAt ps k = (ps.getD k (0, 0)).2 - (ps.getD k (0, 0)).1 ∧ 0 ≤ gapAt ps k ∧ gapAt ps k ≤ 18446744073709551615 := by
  have k1 := okRow_at h hk
  have k2 := pokB_in k1
  have b1 := okB_bd k2.1
  have b2 := okB_bd k2.2.1
  unfold gapAt gapI
  rw [if_neg (by omega)]
  omega
section
variable (wd : Int) (av : Option Addr) (cv base : Nat) (ps : List (Int × Int)) (w : World) (O : OB w base av cv ps)
include O
theorem iUnitsO : Calls Try.prog 16 #[.int .i64 wd, .agg #[.slice av ps.length cv]] w fun e w' => e = .returned (.int .i64 (unitsRow wd ps)) ∧ Below w.heap.size w w' := iBoxUnits wd av _ cv ps w O.inRow
theorem iPathO : Calls Try.prog 17 #[.int .i64 wd, .agg #[.slice av ps.length cv]] w fun e w' => e = .returned (.int .i64 (pathRow wd ps)) ∧ Below w.heap.size w w' := iBoxPath wd av _ cv ps w O.inRow
variable (au : Option Addr) (cu base' : Nat) (qs : List (Int × Int)) (U : OB w base' au cu qs)
include U
end
end Go.Proofs.Ytpnfkigeagbhpaa
