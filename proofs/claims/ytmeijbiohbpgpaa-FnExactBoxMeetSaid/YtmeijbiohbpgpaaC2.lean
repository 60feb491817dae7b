/- One pair after the other is taken in: of whatever function that answers so at each pair and writes nothing that was there. -/
import Derived.Test.YtmeijbiohbpgpaaB4
namespace Go.Proofs.Ytmeijbiohbpgpaa
open Go.RowKit
set_option linter.unusedVariables false

set_option maxHeartbeats 2000000 in
theorem foldU (g : Nat) (a : Option Addr) (len cap : Nat) (ps : List (Int × Int)) (acc : Nat → Int) (w : World) (hR : InRow w a len cap ps)
    (hE : ∀ args w, (callFunc g args).run Try.prog w = .ok (.enter g args) w)
    (hG : ∀ (k : Nat) (x y : Int) (W : World), k < len → ps.getD k (0, 0) = (x, y) → ((-9223372036854775808 ≤ x ∧ x ≤ 9223372036854775807) ∧ -9223372036854775808 ≤ y ∧ y ≤ 9223372036854775807) → Below w.heap.size w W →
      Calls Try.prog g #[.int .u64 (acc k), .agg #[.int .i64 x, .int .i64 y]] W fun e W' => e = .returned (.int .u64 (acc (k + 1))) ∧ Below W.heap.size W W') :
    Calls Try.prog 66 #[.slice a len cap, .int .u64 (acc 0), .func (.func g) #[] #[]] w fun e w' => e = .returned (.int .u64 (acc len)) ∧ Below w.heap.size w w' := by
  have hlen : len ≤ maxLen := Nat.le_trans hR.2.1 hR.2.2.1
  unfold maxLen at hlen
  go_enter Try.func66, Try.ntmps66
  go_wp2
  go_loopw [7, 12] (fun s i wr => ∃ k : Nat, k ≤ len ∧ s = .int .u64 (acc k) ∧ i = .int .i64 k ∧ Below w.heap.size w wr) (fun _ b _ => len - (intOf b).toNat)
  case atStart => exact ⟨0, by omega, rfl, rfl, (by repeat (first | exact Below.refl _ _ | refine Below.drew ?_ | refine old_alloc ?_ _ | refine old_trans ?_ (by assumption)))⟩
  case round =>
    obtain ⟨k, hk, rfl, rfl, hb⟩ := hrel
    by_cases hlt : k < len
    · obtain ⟨b, off, x, y, rfl, hbl, hx, hq, c0, c1⟩ := (hR.old hb).at hlt
      have H := hd (hG k x y wr hlt hx hq hb)
      go_wp2_with fail
      refine H.out.mono ?_
      rintro e w1 ⟨rfl, hb1⟩
      go_wp2
      go_roundw
      case rel => exact ⟨k + 1, by omega, rfl, by go_num, (by repeat (first | exact hb | exact Below.refl _ _ | refine Below.drew ?_ | refine old_alloc ?_ _ | refine old_trans ?_ (by assumption)))⟩
      case measure => simp [intOf]; omega
    · obtain rfl : k = len := by omega
      go_wp2
      go_ret
      exact ⟨rfl, hb⟩

set_option maxHeartbeats 2000000 in
theorem foldN (g : Nat) (a : Option Addr) (len cap : Nat) (ps : List (Int × Int)) (acc : Nat → Int) (w : World) (hR : InRow w a len cap ps)
    (hE : ∀ args w, (callFunc g args).run Try.prog w = .ok (.enter g args) w)
    (hG : ∀ (k : Nat) (x y : Int) (W : World), k < len → ps.getD k (0, 0) = (x, y) → ((-9223372036854775808 ≤ x ∧ x ≤ 9223372036854775807) ∧ -9223372036854775808 ≤ y ∧ y ≤ 9223372036854775807) → Below w.heap.size w W →
      Calls Try.prog g #[.int .i64 (acc k), .agg #[.int .i64 x, .int .i64 y]] W fun e W' => e = .returned (.int .i64 (acc (k + 1))) ∧ Below W.heap.size W W') :
    Calls Try.prog 78 #[.slice a len cap, .int .i64 (acc 0), .func (.func g) #[] #[]] w fun e w' => e = .returned (.int .i64 (acc len)) ∧ Below w.heap.size w w' := by
  have hlen : len ≤ maxLen := Nat.le_trans hR.2.1 hR.2.2.1
  unfold maxLen at hlen
  go_enter Try.func78, Try.ntmps78
  go_wp2
  go_loopw [7, 12] (fun s i wr => ∃ k : Nat, k ≤ len ∧ s = .int .i64 (acc k) ∧ i = .int .i64 k ∧ Below w.heap.size w wr) (fun _ b _ => len - (intOf b).toNat)
  case atStart => exact ⟨0, by omega, rfl, rfl, (by repeat (first | exact Below.refl _ _ | refine Below.drew ?_ | refine old_alloc ?_ _ | refine old_trans ?_ (by assumption)))⟩
  case round =>
    obtain ⟨k, hk, rfl, rfl, hb⟩ := hrel
    by_cases hlt : k < len
    · obtain ⟨b, off, x, y, rfl, hbl, hx, hq, c0, c1⟩ := (hR.old hb).at hlt
      have H := hd (hG k x y wr hlt hx hq hb)
      go_wp2_with fail
      refine H.out.mono ?_
      rintro e w1 ⟨rfl, hb1⟩
      go_wp2
      go_roundw
      case rel => exact ⟨k + 1, by omega, rfl, by go_num, (by repeat (first | exact hb | exact Below.refl _ _ | refine Below.drew ?_ | refine old_alloc ?_ _ | refine old_trans ?_ (by assumption)))⟩
      case measure => simp [intOf]; omega
    · obtain rfl : k = len := by omega
      go_wp2
      go_ret
      exact ⟨rfl, hb⟩
end Go.Proofs.Ytmeijbiohbpgpaa
