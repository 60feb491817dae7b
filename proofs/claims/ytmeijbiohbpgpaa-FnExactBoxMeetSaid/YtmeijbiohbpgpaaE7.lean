/- The boxes that the program and the specification make, as the laws hold them. No condition. -/
import Derived.Test.YtmeijbiohbpgpaaE6
namespace Go.Proofs.Ytmeijbiohbpgpaa
open Go.RowKit
set_option linter.unusedVariables false

theorem Cel1.ltb {w w' : World} {c : Nat} {v : Value} (h : Cel1 w c v) (hb : Below w.heap.size w w') : c < w.heap.size := h.2.2
theorem OB.ltb {w w' : World} {base cv : Nat} {av : Option Addr} {ps : List (Int × Int)} (h : OB w base av cv ps) (hb : Below w.heap.size w w') : ∀ q, av = some q → q.block < w.heap.size := h.lt
theorem InRow.ltb {w w' : World} {a : Option Addr} {len cap : Nat} {ps : List (Int × Int)} (h : InRow w a len cap ps) (hb : Below w.heap.size w w') : 0 < len → ∀ q, a = some q → q.block < w.heap.size := h.far
theorem Below.ltb {w0 w w' : World} (h : Below w0.heap.size w0 w) (hb : Below w.heap.size w w') : w0.heap.size ≤ w.heap.size := h.size
theorem res_len {r : Bool} {ps : List (Int × Int)} {n : Nat} (h : ps.length ≤ n) : (resL r ps).length ≤ n := by
  unfold resL
  split
  · exact h
  · exact Nat.zero_le _
theorem sBoxLessO (a : Option Addr) (len cap : Nat) (ps : List (Int × Int)) (w : World) (hR : InRow w a len cap ps) :
    Calls Try.prog 41 #[.agg #[.slice a len cap]] w fun e w' => (∃ av cv, e = .returned (.tuple #[.agg #[.slice av (resL (okRow 64 ps) (lessL ps)).length cv], .bool (okRow 64 ps)]) ∧ OB w' w.heap.size av cv (resL (okRow 64 ps) (lessL ps))) ∧ Below w.heap.size w w' := by
  refine (sBoxLess a len cap ps w hR).mono ?_
  rintro e w' ⟨h, hb⟩
  exact ⟨h.ob less_fits, hb⟩
theorem iBoxLessO (a : Option Addr) (len cap : Nat) (ps : List (Int × Int)) (w : World) (hR : InRow w a len cap ps) :
    Calls Try.prog 42 #[.agg #[.slice a len cap]] w fun e w' => (∃ av cv, e = .returned (.tuple #[.agg #[.slice av (resL (okRow 64 ps) (lessL ps)).length cv], .bool (okRow 64 ps)]) ∧ OB w' w.heap.size av cv (resL (okRow 64 ps) (lessL ps))) ∧ Below w.heap.size w w' := by
  refine (iBoxLess a len cap ps w hR).mono ?_
  rintro e w' ⟨h, hb⟩
  exact ⟨h.ob less_fits, hb⟩
theorem sBoxMoreO (a : Option Addr) (len cap : Nat) (ps : List (Int × Int)) (w : World) (hR : InRow w a len cap ps) :
    Calls Try.prog 43 #[.agg #[.slice a len cap]] w fun e w' => (∃ av cv, e = .returned (.tuple #[.agg #[.slice av (resL (okRow 32 ps) (moreL ps)).length cv], .bool (okRow 32 ps)]) ∧ OB w' w.heap.size av cv (resL (okRow 32 ps) (moreL ps))) ∧ Below w.heap.size w w' := by
  refine (sBoxMore a len cap ps w hR).mono ?_
  rintro e w' ⟨h, hb⟩
  exact ⟨h.ob more_fits, hb⟩
theorem iBoxMoreO (a : Option Addr) (len cap : Nat) (ps : List (Int × Int)) (w : World) (hR : InRow w a len cap ps) :
    Calls Try.prog 44 #[.agg #[.slice a len cap]] w fun e w' => (∃ av cv, e = .returned (.tuple #[.agg #[.slice av (resL (okRow 32 ps) (moreL ps)).length cv], .bool (okRow 32 ps)]) ∧ OB w' w.heap.size av cv (resL (okRow 32 ps) (moreL ps))) ∧ Below w.heap.size w w' := by
  refine (iBoxMore a len cap ps w hR).mono ?_
  rintro e w' ⟨h, hb⟩
  exact ⟨h.ob more_fits, hb⟩
end Go.Proofs.Ytmeijbiohbpgpaa
