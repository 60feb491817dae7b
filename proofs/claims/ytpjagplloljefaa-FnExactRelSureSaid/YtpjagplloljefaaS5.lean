/- Spans: what is reckoned of two spans' bounds without any rounding: what both have, turned, without sign, the lesser and the greater. Nothing that was there is written. -/
import Derived.Test.YtpjagplloljefaaS4
import Derived.Deep.RegionHeld3
namespace Go.Proofs.Ytpjagplloljefaa
open Go.RowKit
set_option linter.unusedVariables false

theorem four_later {w w1 : World} {p q i j k l : Nat} {x y z u : Value} (h : w.cell? ⟨p, i, none⟩ = some x ∧ w.cell? ⟨p, j, none⟩ = some y ∧ w.cell? ⟨q, k, none⟩ = some z ∧ w.cell? ⟨q, l, none⟩ = some u) (hb : Below w.heap.size w w1) :
    w1.cell? ⟨p, i, none⟩ = some x ∧ w1.cell? ⟨p, j, none⟩ = some y ∧ w1.cell? ⟨q, k, none⟩ = some z ∧ w1.cell? ⟨q, l, none⟩ = some u :=
  ⟨cell_later hb h.1, cell_later hb h.2.1, cell_later hb h.2.2.1, cell_later hb h.2.2.2⟩
end Go.Proofs.Ytpjagplloljefaa
