/- Spans: what is reckoned of two spans that are ok and not empty, by the table's row. Nothing that was there is written, if the row writes nothing. -/
import Derived.Test.YtpjagplloljefaaS7
namespace Go.Proofs.Ytpjagplloljefaa
open Go.RowKit
set_option linter.unusedVariables false

theorem pok_w {wd a b : Int} (h : pokB wd a b = true) : (wd = 32 ∨ wd = 64) ∧ (-9218868437227405312 ≤ a ∧ a ≤ 9218868437227405312) ∧ (-9218868437227405312 ≤ b ∧ b ≤ 9218868437227405312) := by
  obtain ⟨h1, h2, -, -, -⟩ := pokB_in h
  exact ⟨(okB_in h1).1, okB_bd h1, okB_bd h2⟩

/-- what is reckoned of two spans, where both have numbers -/
def bothB (wd : Int) (s1 s2 : Bool) (a b c d : Int) : Bool := (s1 && pokB wd a b) && (s2 && pokB wd c d)

end Go.Proofs.Ytpjagplloljefaa
