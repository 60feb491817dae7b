/- Literals: both sides answer alike. Nothing that was there is written. Conditions: texts of 2^20 bytes at most. -/
import Derived.Test.YtmcfdkhkagkhbaaGreatDoorZM
namespace Go.Proofs.YtmcfdkhkagkhbaaGreatDoor
open Go.RowKit
set_option linter.unusedVariables false
set_option maxRecDepth 100000

set_option maxHeartbeats 1000000 in
theorem sDecOk (s : ByteArray) (hs : s.size ≤ maxLen) (w : World) : Calls Tryz.prog 15 #[.string s] w fun e w' => e = .returned (.bool (decS s)) ∧ w' = w := by
  have P := hd (sParts7 s hs)
  generalize decS s = r at *
  go_enter Tryz.func15, Tryz.ntmps15
  go_wp2_with fail
  refine (P.out _).mono ?_
  rintro e w1 ⟨⟨d, b, p, rfl⟩, rfl⟩
  go_wp2
  go_ret
  exact ⟨rfl, rfl⟩
theorem sDecOkB (s : ByteArray) (hs : s.size ≤ maxLen) (w : World) : Calls Tryz.prog 15 #[.string s] w fun e w' => e = .returned (.bool (decS s)) ∧ Below w.heap.size w w' :=
  (sDecOk s hs w).mono (by rintro e w' ⟨h, rfl⟩; exact ⟨h, Below.refl _ _⟩)
theorem iDecOkB (s : ByteArray) (w : World) : Calls Tryz.prog 20 #[.string s] w fun e w' => e = .returned (.bool (decS s)) ∧ Below w.heap.size w w' := by
  have h := iDecOk s w
  rw [dec_eq] at h
  exact h
end Go.Proofs.YtmcfdkhkagkhbaaGreatDoor
