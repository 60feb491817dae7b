/- Differences, by the specification and by the program. Conditions: numbers, the second not above the first. -/
import Derived.Test.YtfdikhiaphgkpaaDoorBB
import Derived.Test.YtfdikhiaphgkpaaDoorBC
import Derived.Deep.RegionWith
namespace Go.Proofs.YtfdikhiaphgkpaaDoor
open Go.RowKit
set_option linter.unusedVariables false
set_option maxRecDepth 100000

theorem sub_end {n : Nat} {xs ys o : List Int} {c : Int} (h : MixG n xs ys o 1 (-1) c) (hx : xs.length = n) (hy : ys.length ≤ n) (hd : digs xs) (hle : val ys ≤ val xs) : val o = val xs - val ys := by
  have ha := h.all (by omega) hy
  have hq := val_lt h.2.1
  rw [h.1] at hq
  have hl := val_lt hd
  rw [hx] at hl
  have e := pow_cast n
  have := mix_end (V := ((val xs : Nat) : Int) - ((val ys : Nat) : Int)) (by rw [ha]; omega) hq (by omega) (by omega)
  omega
end Go.Proofs.YtfdikhiaphgkpaaDoor
