/- What two boxes have in common, by the program. Conditions: 2^20 pairs at most. -/
import Derived.Test.YtekbhkklaogmnaaDoorE8
import Derived.Test.YtekbhkklaogmnaaDoorCut
namespace Go.Proofs.YtekbhkklaogmnaaDoor
open Go.RowKit
set_option linter.unusedVariables false
set_option maxRecDepth 100000

theorem fits_at {ps : List (Int × Int)} (h : Fits ps) {k : Nat} (hk : k < ps.length) : (-9223372036854775808 ≤ (ps.getD k (0, 0)).1 ∧ (ps.getD k (0, 0)).1 ≤ 9223372036854775807) ∧ -9223372036854775808 ≤ (ps.getD k (0, 0)).2 ∧ (ps.getD k (0, 0)).2 ≤ 9223372036854775807 := by
  have e : ps.getD k (0, 0) = ps[k] := by rw [List.getD_eq_getElem?_getD, List.getElem?_eq_getElem hk]; rfl
  rw [e]
  exact h _ (List.getElem_mem _)
theorem meetRow_len {wd : Int} {ps qs : List (Int × Int)} (h : meetRow wd ps qs = true) : ps.length = qs.length := by
  unfold meetRow at h
  simp at h
  exact h.2.2.1
theorem madeL_congr {n : Nat} {x y x' y' : Nat → Int} (h : ∀ k, k < n → x k = x' k ∧ y k = y' k) : madeL n x y = madeL n x' y' := by
  unfold madeL
  apply List.map_congr_left
  intro k hk
  rw [(h k (List.mem_range.1 hk)).1, (h k (List.mem_range.1 hk)).2]

theorem meet_fits {wd : Int} {ps qs : List (Int × Int)} (hf : Fits ps) (hg : Fits qs) (hl : ps.length = qs.length) : Fits (meetL ps qs) := by
  refine fits_made (fun k hk => ?_)
  have h1 := fits_at hf (k := k) hk
  have h2 := fits_at hg (k := k) (by omega)
  unfold meetX meetY
  omega
end Go.Proofs.YtekbhkklaogmnaaDoor
