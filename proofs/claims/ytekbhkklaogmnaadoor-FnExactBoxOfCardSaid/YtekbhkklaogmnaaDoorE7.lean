/- The boxes that the program and the specification make, as the laws hold them. No condition. -/
import Derived.Test.YtekbhkklaogmnaaDoorE6
namespace Go.Proofs.YtekbhkklaogmnaaDoor
open Go.RowKit
set_option linter.unusedVariables false
set_option maxRecDepth 100000

theorem Cel1.ltb {w w' : World} {c : Nat} {v : Value} (h : Cel1 w c v) (hb : Below w.heap.size w w') : c < w.heap.size := h.2.2
theorem OB.ltb {w w' : World} {base cv : Nat} {av : Option Addr} {ps : List (Int × Int)} (h : OB w base av cv ps) (hb : Below w.heap.size w w') : ∀ q, av = some q → q.block < w.heap.size := h.lt
theorem InRow.ltb {w w' : World} {a : Option Addr} {len cap : Nat} {ps : List (Int × Int)} (h : InRow w a len cap ps) (hb : Below w.heap.size w w') : 0 < len → ∀ q, a = some q → q.block < w.heap.size := h.far
theorem Below.ltb {w0 w w' : World} (h : Below w0.heap.size w0 w) (hb : Below w.heap.size w w') : w0.heap.size ≤ w.heap.size := h.size
theorem res_len {r : Bool} {ps : List (Int × Int)} {n : Nat} (h : ps.length ≤ n) : (resL r ps).length ≤ n := by
  unfold resL
  split
  · exact h
  · exact Nat.zero_le _
end Go.Proofs.YtekbhkklaogmnaaDoor
