/- Literals of the specification: runs of digits. Nothing is written. No condition but that the place lies in the text. -/
import Derived.Test.YtafpjgojmpjajaaZK
namespace Go.Proofs.Ytafpjgojmpjajaa
open Go.RowKit
set_option linter.unusedVariables false
set_option maxRecDepth 100000

theorem dig_iff {s : ByteArray} {k : Nat} (h : k < s.size) : dig' s k ↔ (48 ≤ byt s k ∧ byt s k ≤ 57) := ⟨fun g => g.2, fun g => ⟨h, g⟩⟩
theorem dn_le (s : ByteArray) (k : Nat) (h : k ≤ s.size) : k + dn s k ≤ s.size := by
  by_cases c : dn s k = 0
  · omega
  · have := dn_dig s _ k (dn s k - 1) rfl (by omega)
    have := this.1
    omega
set_option maxHeartbeats 2000000 in
theorem sRun11 (s : ByteArray) (k : Nat) (hk : k ≤ s.size) (hs : s.size ≤ maxLen) (w : World) : Calls Try.prog 45 #[.string s, .int .i64 (k : Int)] w fun e w' => e = .returned (.int .i64 (dn s k)) ∧ w' = w := by
  unfold maxLen at hs
  go_enter Try.func45, Try.ntmps45
  go_wp2
  go_loopw [5] (fun a wr => ∃ n : Nat, k + n ≤ s.size ∧ a = .int .i64 n ∧ (∀ i, i < n → dig' s (k + i)) ∧ wr = w) (fun b _ => s.size - k - (intOf b).toNat)
  case atStart => exact ⟨0, by omega, rfl, fun i h => absurd h (by omega), rfl⟩
  case round =>
    obtain ⟨n, hn, rfl, hd0, rfl⟩ := hrel
    by_cases hlt : k + n < s.size
    · have ix := idxS (t := 9) Try.underlying9 s (k + n) hlt
      have fin := hd (fun (g : ¬ dig' s (k + n)) => dn_eq hd0 g)
      have go := hd (fun (g : dig' s (k + n)) i (hi : i < n + 1) => (by
        by_cases e : i = n
        · subst e; exact g
        · exact hd0 i (by omega) : dig' s (k + i)))
      have di := hd (dig_iff hlt)
      have hlt' : (k : Int) + (n : Int) < (s.size : Int) := by omega
      have DD := hd (sDigit (byt s (k + n)))
      have ed : isD (byt s (k + n)) = (decide (48 ≤ byt s (k + n)) && decide (byt s (k + n) ≤ 57)) := rfl
      push_cast at ix
      generalize isD (byt s (k + n)) = dd at *
      generalize byt s (k + n) = b at *
      clear hd0
      cases dd
      · have no : ¬ (48 ≤ b ∧ b ≤ 57) := by
          intro q
          simp [q.1, q.2] at ed
        clear ed
        go_wp2_with fail
        refine (DD.out _).mono ?_
        rintro e w1 ⟨rfl, rfl⟩
        go_wp2
        go_ret
        refine ⟨?_, rfl⟩
        rw [fin.out (fun g => no (di.out.1 g))]
        rfl
      · have yes : 48 ≤ b ∧ b ≤ 57 := by simpa using ed.symm
        clear ed
        go_wp2_with fail
        refine (DD.out _).mono ?_
        rintro e w1 ⟨rfl, rfl⟩
        go_wp2
        go_roundw
        case rel => exact ⟨n + 1, by omega, by go_num, go.out (di.out.2 yes), trivial⟩
        case measure => simp [intOf]; omega
    · have hlt' : ¬ (k : Int) + (n : Int) < (s.size : Int) := by omega
      have fin := dn_eq hd0 (fun g => hlt g.1)
      go_wp2
      go_ret
      exact ⟨rfl, rfl⟩
end Go.Proofs.Ytafpjgojmpjajaa
