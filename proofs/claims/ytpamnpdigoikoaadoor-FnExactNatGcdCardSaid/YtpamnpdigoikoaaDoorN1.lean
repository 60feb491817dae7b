/- What a number is, by the specification and by the program; nothing is written. No condition. -/
import Derived.Test.YtpamnpdigoikoaaDoorN0
namespace Go.Proofs.YtpamnpdigoikoaaDoor
open Go.RowKit
set_option linter.unusedVariables false
set_option maxRecDepth 100000

theorem retB {b c : Bool} (h : c = b) : Ending.returned (.bool b) = .returned (.bool c) := by rw [h]
theorem retI {k : IntKind} {b c : Int} (h : c = b) : Ending.returned (.int k b) = .returned (.int k c) := by rw [h]
def dig (x : Int) : Prop := 0 ≤ x ∧ x < 65536
def digs (xs : List Int) : Prop := ∀ i, i < xs.length → dig (xs.getD i 0)
def natOk (xs : List Int) : Bool := decide (xs.length ≤ 256 ∧ (∀ i, i < xs.length → 0 ≤ xs.getD i 0 ∧ xs.getD i 0 < 65536) ∧ (xs.length = 0 ∨ xs.getD (xs.length - 1) 0 ≠ 0))
theorem natOk_in {xs : List Int} (h : natOk xs = true) : xs.length ≤ 256 ∧ digs xs ∧ (xs.length = 0 ∨ xs.getD (xs.length - 1) 0 ≠ 0) := by
  unfold natOk at h
  rw [decide_eq_true_eq] at h
  exact h
theorem natOk_mk {xs : List Int} (h1 : xs.length ≤ 256) (h2 : digs xs) (h3 : xs.length = 0 ∨ xs.getD (xs.length - 1) 0 ≠ 0) : natOk xs = true := by
  unfold natOk
  rw [decide_eq_true_eq]
  exact ⟨h1, h2, h3⟩
theorem natOk_long {xs : List Int} (h : ¬ xs.length ≤ 256) : natOk xs = false := by
  unfold natOk
  exact decide_eq_false (fun g => h g.1)
theorem natOk_bad {xs : List Int} {k : Nat} (hk : k < xs.length) (h : ¬ dig (xs.getD k 0)) : natOk xs = false := by
  unfold natOk
  exact decide_eq_false (fun g => h (g.2.1 k hk))
theorem natOk_last {xs : List Int} (h0 : xs.length ≠ 0) (h : xs.getD (xs.length - 1) 0 = 0) : natOk xs = false := by
  unfold natOk
  exact decide_eq_false (fun g => g.2.2.elim h0 (fun q => q h))

set_option maxHeartbeats 2000000 in
theorem sNatOk (a : Option Addr) (len cap : Nat) (xs : List Int) (w : World) (hR : InI w a len cap xs) :
    Calls Tryd.prog 43 #[.slice a len cap] w fun e w' => e = .returned (.bool (natOk xs)) ∧ w' = w := by
  have hlen := hR.len
  have hp := hR.1
  by_cases hl : len ≤ 256
  case neg =>
    rw [natOk_long (by omega)]
    go_enter Tryd.func43, Tryd.ntmps43
    go_wp2
    go_ret
    exact ⟨rfl, rfl⟩
  go_enter Tryd.func43, Tryd.ntmps43
  go_wp2
  go_loopw [3] (fun a wr => ∃ k : Nat, k ≤ len ∧ a = .int .i64 k ∧ (∀ i, i < k → dig (xs.getD i 0)) ∧ wr = w) (fun b _ => len - (intOf b).toNat)
  case atStart => exact ⟨0, by omega, rfl, fun i h => absurd h (by omega), rfl⟩
  case round =>
    obtain ⟨k, hk, rfl, hd0, rfl⟩ := hrel
    by_cases hlt : k < len
    · obtain ⟨b, off, x, rfl, hbl, hx, -, c0⟩ := hR.at hlt
      by_cases c1 : x < 0
      · go_wp2
        go_ret
        exact ⟨retB (natOk_bad (k := k) (by omega) (by rw [hx]; unfold dig; omega)), rfl⟩
      by_cases c2 : 65536 ≤ x
      · go_wp2
        go_ret
        exact ⟨retB (natOk_bad (k := k) (by omega) (by rw [hx]; unfold dig; omega)), rfl⟩
      go_wp2
      go_roundw
      case rel =>
        refine ⟨k + 1, by omega, by go_num, fun i hi => ?_, trivial⟩
        by_cases e : i = k
        · subst e; rw [hx]; unfold dig; omega
        · exact hd0 i (by omega)
      case measure => simp [intOf]; omega
    · obtain rfl : k = len := by omega
      by_cases h0 : k = 0
      · subst h0
        go_wp2
        go_ret
        exact ⟨retB (natOk_mk (by omega) (fun i hi => hd0 i (by omega)) (.inl hp)), rfl⟩
      obtain ⟨b, off, x, rfl, hbl, hx, -, c0⟩ := hR.at (k := k - 1) (by omega)
      have ek : ((k : Int) - 1) = ((k - 1 : Nat) : Int) := by omega
      by_cases c1 : x = 0
      · subst c1
        go_wp2
        go_ret
        exact ⟨retB ((natOk_last (xs := xs) (by omega) (by rw [hp]; exact hx)).trans (by simp; omega)), rfl⟩
      · go_wp2
        go_ret
        exact ⟨retB ((natOk_mk (by omega) (fun i hi => hd0 i (by omega)) (.inr (by rw [hp, hx]; exact c1))).trans (by simp [c1])), rfl⟩
set_option maxHeartbeats 2000000 in
theorem iNatOk (a : Option Addr) (len cap : Nat) (xs : List Int) (w : World) (hR : InI w a len cap xs) :
    Calls Tryd.prog 46 #[.slice a len cap] w fun e w' => e = .returned (.bool (natOk xs)) ∧ w' = w := by
  have hlen := hR.len
  have hp := hR.1
  by_cases hl : len ≤ 256
  case neg =>
    rw [natOk_long (by omega)]
    go_enter Tryd.func46, Tryd.ntmps46
    go_wp2
    go_ret
    exact ⟨rfl, rfl⟩
  by_cases h0 : len = 0
  · subst h0
    rw [natOk_mk (by omega) (fun i hi => absurd hi (by omega)) (.inl hp)]
    go_enter Tryd.func46, Tryd.ntmps46
    go_wp2
    go_loopw [24] (fun a wr => a = .int .i64 0 ∧ wr = w) (fun _ _ => 0)
    case atStart => exact ⟨rfl, rfl⟩
    case round =>
      obtain ⟨rfl, rfl⟩ := hrel
      go_wp2
      go_ret
      exact ⟨rfl, rfl⟩
  obtain ⟨b, off, x, rfl, hbl, hx, -, c0⟩ := hR.at (k := len - 1) (by omega)
  have ek : ((len : Int) - 1) = ((len - 1 : Nat) : Int) := by omega
  by_cases c1 : x = 0
  · subst c1
    rw [natOk_last (xs := xs) (by omega) (by rw [hp]; exact hx)]
    go_enter Tryd.func46, Tryd.ntmps46
    go_wp2
    go_ret
    exact ⟨rfl, rfl⟩
  go_enter Tryd.func46, Tryd.ntmps46
  have c1' : (x == 0) = false := by simpa using c1
  go_wp2
  go_loopw [24] (fun a wr => ∃ k : Nat, k ≤ len ∧ a = .int .i64 k ∧ (∀ i, i < k → dig (xs.getD i 0)) ∧ wr = w) (fun b _ => len - (intOf b).toNat)
  case atStart => exact ⟨0, by omega, rfl, fun i h => absurd h (by omega), rfl⟩
  case round =>
    obtain ⟨k, hk, rfl, hd0, rfl⟩ := hrel
    by_cases hlt : k < len
    · obtain ⟨b', off', y, he, -, hy, -, c2⟩ := hR.at hlt
      obtain ⟨rfl, rfl⟩ : b = b' ∧ off = off' := by injection he with he; injection he with h1 h2; exact ⟨h1, h2⟩
      clear he
      by_cases d1 : y < 0
      · go_wp2
        go_ret
        exact ⟨retB (natOk_bad (k := k) (by omega) (by rw [hy]; unfold dig; omega)), rfl⟩
      by_cases d2 : 65536 ≤ y
      · go_wp2
        go_ret
        exact ⟨retB (natOk_bad (k := k) (by omega) (by rw [hy]; unfold dig; omega)), rfl⟩
      go_wp2
      go_roundw
      case rel =>
        refine ⟨k + 1, by omega, by go_num, fun i hi => ?_, trivial⟩
        by_cases e : i = k
        · subst e; rw [hy]; unfold dig; omega
        · exact hd0 i (by omega)
      case measure => simp [intOf]; omega
    · obtain rfl : k = len := by omega
      go_wp2
      go_ret
      exact ⟨retB (natOk_mk (by omega) (fun i hi => hd0 i (by omega)) (.inr (by rw [hp, hx]; exact c1))), rfl⟩
end Go.Proofs.YtpamnpdigoikoaaDoor
