/- Literals: both sides answer alike. Nothing that was there is written. Conditions: texts of 2^20 bytes at most. -/
import Derived.Test.YtmpckbgelkfgpaaPK08
import Derived.Test.YtmpckbgelkfgpaaPK09
namespace Go.Proofs.Ytmpckbgelkfgpaa
open Go.RowKit
set_option linter.unusedVariables false
set_option maxRecDepth 100000

theorem iDecOkB (s : ByteArray) (w : World) : Calls Try.prog 148 #[.string s] w fun e w' => e = .returned (.bool (decS s)) ∧ Below w.heap.size w w' := by
  have h := iDecOk s w
  rw [dec_eq] at h
  exact h
end Go.Proofs.Ytmpckbgelkfgpaa

/- Literals and numbers of the language: both sides answer alike. Nothing that was there is written. Conditions: texts of 2^20 bytes at most. -/
namespace Go.Proofs.Ytmpckbgelkfgpaa
open Go.RowKit
set_option linter.unusedVariables false
set_option maxRecDepth 100000

theorem sNumOkB (s : ByteArray) (hs : s.size ≤ maxLen) (w : World) : Calls Try.prog 133 #[.string s] w fun e w' => e = .returned (.bool (decS s)) ∧ Below w.heap.size w w' :=
  (sNumOk s hs w).mono (by rintro e w' ⟨h, rfl⟩; exact ⟨h, Below.refl _ _⟩)
set_option maxHeartbeats 1000000 in
theorem iNumOk (s : ByteArray) (w : World) : Calls Try.prog 134 #[.string s] w fun e w' => e = .returned (.bool (decS s)) ∧ Below w.heap.size w w' := by
  by_cases h60 : 60 < s.size
  · rw [decS_bad (.inl h60)]
    have h60' : ¬ (s.size : Int) ≤ 60 := by omega
    go_enter Try.func134, Try.ntmps134
    go_wp2
    go_ret
    exact ⟨rfl, Below.refl _ _⟩
  have h60' : (s.size : Int) ≤ 60 := by omega
  have P := hd (iDecOkB s)
  generalize decS s = r at *
  go_enter Try.func134, Try.ntmps134
  go_wp2_with fail
  refine (P.out _).mono ?_
  rintro e w1 ⟨rfl, hb⟩
  go_wp2
  go_ret
  exact ⟨rfl, hb⟩
end Go.Proofs.Ytmpckbgelkfgpaa
