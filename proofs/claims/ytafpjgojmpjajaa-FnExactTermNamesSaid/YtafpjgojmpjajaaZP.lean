/- Literals: both sides answer alike. Nothing that was there is written. Conditions: texts of 2^20 bytes at most. -/
import Derived.Test.YtafpjgojmpjajaaZM
namespace Go.Proofs.Ytafpjgojmpjajaa
open Go.RowKit
set_option linter.unusedVariables false
set_option maxRecDepth 100000

theorem iDecOkB (s : ByteArray) (w : World) : Calls Try.prog 48 #[.string s] w fun e w' => e = .returned (.bool (decS s)) ∧ Below w.heap.size w w' := by
  have h := iDecOk s w
  rw [dec_eq] at h
  exact h
end Go.Proofs.Ytafpjgojmpjajaa
