/- A law's own copy of a term, as nodes that lie somewhere. Conditions: lists of 2^20 nodes at most. -/
import Derived.Test.YtafpjgojmpjajaaZU
import Derived.Deep.RegionWith
namespace Go.Proofs.Ytafpjgojmpjajaa
open Go.RowKit
set_option linter.unusedVariables false
set_option maxRecDepth 100000

theorem InN.al {w : World} {a : Option Addr} {len cap : Nat} {xs : List Tn} (h : InN w a len cap xs) (o : Obj) : InN (w.alloc o) a len cap xs := h.old ((Below.refl _ _).alloc (Nat.le_refl _) o)
theorem InN.dr {w : World} {a : Option Addr} {len cap : Nat} {xs : List Tn} (h : InN w a len cap xs) : InN w.drew a len cap xs := h.old (Below.refl _ _).drew
theorem toTermI (a : Option Addr) (cap : Nat) (xs : List Tn) (w : World) (hR : InN w a xs.length cap xs) (hl : xs.length ≤ 1048576) :
    Calls Try.prog 6 #[.agg #[.slice a xs.length cap]] w fun e w' => (∃ b, e = .returned (.agg #[.slice (some ⟨b, 0, none⟩) xs.length xs.length]) ∧ w.heap.size ≤ b ∧ InN w' (some ⟨b, 0, none⟩) xs.length xs.length xs) ∧ Below w.heap.size w w' := by
  refine (lToTerm a xs.length cap xs w hR hl).mono ?_
  rintro e w' ⟨⟨b, he, hb, hr⟩, h⟩
  exact ⟨⟨b, he, hb, hr.inN hR.2.2.2.1 (Nat.le_refl _) (Nat.le_trans hR.2.1 hR.2.2.1)⟩, h⟩
end Go.Proofs.Ytafpjgojmpjajaa
