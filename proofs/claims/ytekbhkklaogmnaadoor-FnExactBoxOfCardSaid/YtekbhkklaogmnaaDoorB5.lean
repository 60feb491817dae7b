/- Whether a box lies within another one: by the specification's loop, and by the program's search. No condition. -/
import Derived.Test.YtekbhkklaogmnaaDoorB4
namespace Go.Proofs.YtekbhkklaogmnaaDoor
open Go.RowKit
set_option linter.unusedVariables false
set_option maxRecDepth 100000

def allI (n : Nat) (p : Nat → Bool) : Bool := (List.range n).all p
theorem allI_no {n k : Nat} {p : Nat → Bool} (hk : k < n) (h : p k = false) : allI n p = false := by
  unfold allI; rw [List.all_eq_false]; exact ⟨k, List.mem_range.2 hk, by simp [h]⟩
theorem allI_yes {n : Nat} {p : Nat → Bool} (h : ∀ k, k < n → p k = true) : allI n p = true := by
  unfold allI; rw [List.all_eq_true]; intro k hk; exact h k (List.mem_range.1 hk)
theorem firstI_all {n : Nat} {p q : Nat → Bool} (h : ∀ k, k < n → p k = !q k) : decide (firstI n p < 0) = allI n q := by
  rw [firstI_neg]
  cases e : allI n q
  · unfold allI at e
    rw [List.all_eq_false] at e
    obtain ⟨k, hk, hn⟩ := e
    rw [List.all_eq_false]
    exact ⟨k, hk, by rw [h k (List.mem_range.1 hk)]; simpa using hn⟩
  · unfold allI at e
    rw [List.all_eq_true] at e
    rw [List.all_eq_true]
    intro k hk
    rw [h k (List.mem_range.1 hk), e k hk]; rfl

def isAt (ps qs : List (Int × Int)) (k : Nat) : Bool := isB (ps.getD k (0, 0)).1 (ps.getD k (0, 0)).2 (qs.getD k (0, 0)).1 (qs.getD k (0, 0)).2
def isRow (ps qs : List (Int × Int)) : Bool := decide (ps.length = qs.length) && allI ps.length (isAt ps qs)
theorem isAt_eq {ps qs : List (Int × Int)} {k : Nat} {x y u v : Int} (h1 : ps.getD k (0, 0) = (x, y)) (h2 : qs.getD k (0, 0) = (u, v)) : isAt ps qs k = isB x y u v := by unfold isAt; rw [h1, h2]

end Go.Proofs.YtekbhkklaogmnaaDoor
