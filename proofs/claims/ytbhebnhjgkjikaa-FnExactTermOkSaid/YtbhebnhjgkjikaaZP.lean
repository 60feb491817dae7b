/- Literals: both sides answer alike. Nothing that was there is written. Conditions: texts of 2^20 bytes at most. -/
import Derived.Test.YtbhebnhjgkjikaaZM
namespace Go.Proofs.Ytbhebnhjgkjikaa
open Go.RowKit
set_option linter.unusedVariables false

set_option maxHeartbeats 1000000 in
theorem sDecOk (s : ByteArray) (hs : s.size ≤ maxLen) (w : World) : Calls Try.prog 11 #[.string s] w fun e w' => e = .returned (.bool (decS s)) ∧ w' = w := by
  have P := hd (sParts7 s hs)
  generalize decS s = r at *
  go_enter Try.func11, Try.ntmps11
  go_wp2_with fail
  refine (P.out _).mono ?_
  rintro e w1 ⟨⟨d, b, p, rfl⟩, rfl⟩
  go_wp2
  go_ret
  exact ⟨rfl, rfl⟩
theorem sDecOkB (s : ByteArray) (hs : s.size ≤ maxLen) (w : World) : Calls Try.prog 11 #[.string s] w fun e w' => e = .returned (.bool (decS s)) ∧ Below w.heap.size w w' :=
  (sDecOk s hs w).mono (by rintro e w' ⟨h, rfl⟩; exact ⟨h, Below.refl _ _⟩)
theorem iDecOkB (s : ByteArray) (w : World) : Calls Try.prog 12 #[.string s] w fun e w' => e = .returned (.bool (decS s)) ∧ Below w.heap.size w w' := by
  have h := iDecOk s w
  rw [dec_eq] at h
  exact h
end Go.Proofs.Ytbhebnhjgkjikaa
