/- A draw of digits, one in twenty no number's: some list of numbers, 257 at most, in new memory. -/
import Derived.Test.YtekhokemekaeoaaDoorUI
namespace Go.Proofs.YtekhokemekaeoaaDoor
open Go.RowKit
set_option linter.unusedVariables false
set_option maxRecDepth 100000

def lenV : Value → Nat
  | .slice _ n _ => n
  | _ => 0
theorem IGrows.lenV {w : World} {base : Nat} {v : Value} {xs : List Int} (h : IGrows w base v xs) : lenV v = xs.length := by
  rcases h.2 with ⟨h1, h2⟩ | ⟨g, cap, cur, h1, _⟩
  · rw [h1, h2]; rfl
  · rw [h1]; rfl
theorem IGrows.sl {w : World} {base : Nat} {v : Value} {xs : List Int} (h : IGrows w base v xs) : ∃ a c, v = .slice a xs.length c := by
  rcases h.2 with ⟨h1, h2⟩ | ⟨g, cap, cur, h1, _⟩
  · exact ⟨_, _, by rw [h1, h2]⟩
  · exact ⟨_, _, h1⟩
end Go.Proofs.YtekhokemekaeoaaDoor
