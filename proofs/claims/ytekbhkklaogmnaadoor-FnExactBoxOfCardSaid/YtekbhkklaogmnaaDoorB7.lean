/- The coordinate with the most steps: the specification's loop, the program's greatest count and the first coordinate that has it. No condition. -/
import Derived.Test.YtekbhkklaogmnaaDoorB6
import Derived.Test.YtekbhkklaogmnaaDoorC2
namespace Go.Proofs.YtekbhkklaogmnaaDoor
open Go.RowKit
set_option linter.unusedVariables false
set_option maxRecDepth 100000

def maxG (ps : List (Int × Int)) : Nat → Int
  | 0 => 0
  | k + 1 => max (maxG ps k) (gapAt ps k)
def widest (wd : Int) (ps : List (Int × Int)) : Int := if okRow wd ps then firstI ps.length (fun k => gapAt ps k == maxG ps ps.length) else -1
theorem maxG_le {ps : List (Int × Int)} {m : Int} (h0 : 0 ≤ m) : ∀ n, (∀ j, j < n → gapAt ps j ≤ m) → maxG ps n ≤ m
  | 0, _ => h0
  | n + 1, h => by
    have h1 := maxG_le h0 n (fun j hj => h j (by omega))
    have h2 := h n (by omega)
    show max _ _ ≤ m
    omega
theorem le_maxG {ps : List (Int × Int)} : ∀ n j, j < n → gapAt ps j ≤ maxG ps n
  | 0, _, h => by omega
  | n + 1, j, h => by
    show _ ≤ max _ _
    by_cases e : j = n
    · subst e; omega
    · have := le_maxG (ps := ps) n j (by omega); omega
theorem maxG_bd {ps : List (Int × Int)} (hb : ∀ j, j < ps.length → 0 ≤ gapAt ps j ∧ gapAt ps j ≤ 18446744073709551615) : ∀ n, n ≤ ps.length → 0 ≤ maxG ps n ∧ maxG ps n ≤ 18446744073709551615
  | 0, _ => by show 0 ≤ (0 : Int) ∧ (0 : Int) ≤ _; omega
  | n + 1, h => by
    have h1 := maxG_bd hb n (by omega)
    have h2 := hb n (by omega)
    show 0 ≤ max _ _ ∧ max _ _ ≤ _
    omega
theorem firstI_at {n b : Nat} {p : Nat → Bool} (hb : b < n) (h : p b = true) (hn : ∀ j, j < b → p j = false) : firstI n p = b := by
  unfold firstI
  have : (List.range n).find? p = some b := List.find?_range_eq_some.2 ⟨h, List.mem_range.2 hb, fun j hj => by simp [hn j hj]⟩
  rw [this]
theorem widest_eq {wd : Int} {ps : List (Int × Int)} {b : Nat} (hok : okRow wd ps = true) (hb : b < ps.length) (h0 : 0 ≤ gapAt ps b) (h1 : ∀ j, j < ps.length → gapAt ps j ≤ gapAt ps b) (h2 : ∀ j, j < b → gapAt ps j < gapAt ps b) : widest wd ps = b := by
  have e : maxG ps ps.length = gapAt ps b := Int.le_antisymm (maxG_le h0 _ h1) (le_maxG _ b hb)
  unfold widest
  rw [if_pos hok, e]
  refine firstI_at hb (by simp) (fun j hj => ?_)
  have := h2 j hj
  simp; omega
theorem okRow_len {wd : Int} {ps : List (Int × Int)} (h : okRow wd ps = true) : 1 ≤ ps.length ∧ ps.length ≤ 6 := by
  unfold okRow at h
  simp at h
  omega
theorem gapAt_bd {w : World} {a : Option Addr} {len cap : Nat} {ps : List (Int × Int)} (hR : InRow w a len cap ps) {k : Nat} (hk : k < len) : 0 ≤ gapAt ps k ∧ gapAt ps k ≤ 18446744073709551615 := by
  obtain ⟨b, off, x, y, -, -, hx, ⟨⟨q1, q2⟩, q3, q4⟩, -, -⟩ := hR.at hk
  rw [gapAt_eq hx]
  exact gapI_bd x y q1 q4

end Go.Proofs.YtekbhkklaogmnaaDoor
