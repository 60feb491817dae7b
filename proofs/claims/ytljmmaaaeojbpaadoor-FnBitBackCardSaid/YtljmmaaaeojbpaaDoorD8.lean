/- The draw of a width and an order number, and of a width and a pattern: nothing that was there is written. -/
import Derived.Test.YtljmmaaaeojbpaaDoorD4
import Derived.Test.YtljmmaaaeojbpaaDoorW4
namespace Go.Proofs.YtljmmaaaeojbpaaDoor
open Go.RowKit

theorem below2 {a b : World} {o : Obj} {rb : Nat} (h : But rb (a.alloc o) b) (e : rb = a.heap.size) : Below a.heap.size a b := by subst e; exact h.below

set_option maxHeartbeats 400000 in
theorem drawOk (w : World) (a : Option Addr) (len cap : Nat) (h : IsCode w a len cap) :
    Calls Tryd.prog 9 #[.slice a len cap] w fun e w' => (∃ wd n : Int, (-64 ≤ wd ∧ wd ≤ 64 ∧ -9223372036854775808 ≤ n ∧ n ≤ 9223372036854775807) ∧ e = .returned (.tuple #[.int .i64 wd, .int .i64 n])) ∧ Below w.heap.size w w' := by
  go_enter Tryd.func9, Tryd.ntmps9
  go_wp2_with fail
  refine (widthOrd w a len cap h).mono ?_
  rintro e w1 ⟨⟨wd, n, hb, rfl⟩, hB⟩
  go_wp2
  go_ret2
  exact ⟨⟨wd, n, hb, rfl⟩, hB⟩

theorem sBits_any (wd n : Int) (w : World) : Calls Tryd.prog 17 #[.int .i64 wd, .int .i64 n] w fun e w' => (∃ b : Int, (0 ≤ b ∧ b < 18446744073709551616) ∧ e = .returned (.int .u64 b)) ∧ Below w.heap.size w w' := by
  by_cases c32 : wd = 32
  · subst c32
    by_cases c : -2139095040 ≤ n ∧ n ≤ 2139095040
    · refine (sBitBits_32 n c.1 c.2 w).mono ?_
      rintro e w' ⟨rfl, hb⟩
      exact ⟨⟨_, by unfold bitsI; split <;> omega, rfl⟩, hb⟩
    · refine (sBitBits_32_out n c w).mono ?_
      rintro e w' ⟨rfl, hb⟩
      exact ⟨⟨0, by omega, rfl⟩, hb⟩
  by_cases c64 : wd = 64
  · subst c64
    by_cases c : -9218868437227405312 ≤ n ∧ n ≤ 9218868437227405312
    · refine (sBitBits_64 n c.1 c.2 w).mono ?_
      rintro e w' ⟨rfl, hb⟩
      exact ⟨⟨_, by unfold bitsI; split <;> omega, rfl⟩, hb⟩
    · refine (sBitBits_64_out n c w).mono ?_
      rintro e w' ⟨rfl, hb⟩
      exact ⟨⟨0, by omega, rfl⟩, hb⟩
  refine (sBitBits_no wd n c32 c64 w).mono ?_
  rintro e w' ⟨rfl, hb⟩
  exact ⟨⟨0, by omega, rfl⟩, hb⟩

set_option maxHeartbeats 2000000 in
theorem drawOrd (w : World) (a : Option Addr) (len cap : Nat) (h : IsCode w a len cap) :
    Calls Tryd.prog 5 #[.slice a len cap] w fun e w' => (∃ wd b : Int, (-64 ≤ wd ∧ wd ≤ 64 ∧ 0 ≤ b ∧ b < 18446744073709551616) ∧ e = .returned (.tuple #[.int .i64 wd, .int .u64 b])) ∧ Below w.heap.size w w' := by
  go_enter Tryd.func5, Tryd.ntmps5
  go_wp2_with fail
  refine (open_k w a len cap h).mono ?_
  rintro e w1 ⟨rfl, o, rfl, hR⟩
  clear h
  obtain ⟨rb, hrb⟩ : ∃ rb, rb = w.heap.size := ⟨_, rfl⟩
  rw [← hrb] at hR ⊢
  have HRB : Hid (rb = w.heap.size) := hrb
  clear hrb
  go_wp2_with fail
  refine (width_k rb 900 _ (hR.mono (by omega))).mono ?_
  rintro e w2 ⟨⟨wd, ⟨d1, d2⟩, rfl⟩, hR2, hB2⟩
  clear hR
  go_wp2_with fail
  refine (ord_any wd rb 800 _ (hR2.mono (by omega))).mono ?_
  rintro e w3 ⟨⟨n, ⟨n1, n2⟩, rfl⟩, hR3, hB3⟩
  clear hR2
  go_wp2_with fail
  refine (sBits_any wd n _).mono ?_
  rintro e w4 ⟨⟨b, ⟨b1, b2⟩, rfl⟩, hb4⟩
  replace hR3 := hR3.old hb4
  go_wp2_with fail
  refine (pick_k rb 700 _ _ (hR3.mono (by omega)) (by decide)).mono ?_
  rintro e w5 ⟨⟨v0, ⟨va, vb⟩, rfl⟩, hR5, hB5⟩
  clear hR3
  have hB : But rb (w.alloc o) w5 := ((hB2.trans hB3).trans (But.of hb4)).trans hB5
  clear hB2 hB3 hb4 hB5
  have h6 : v0 = 0 ∨ v0 = 1 ∨ v0 = 2 ∨ v0 = 3 ∨ 4 ≤ v0 := by omega
  rcases h6 with rfl | rfl | rfl | rfl | h5
  · go_wp2_with (first | (go_at_call 19; refine (pick_k rb _ _ _ (by assumption) (by decide)).mono ?_; rintro e wx ⟨⟨v, ⟨va, vb⟩, rfl⟩, hR, hB⟩) | (go_at_call 20; refine (big_k rb _ _ (by assumption)).mono ?_; rintro e wx ⟨⟨v, ⟨va, vb⟩, rfl⟩, hR, hB⟩))
    all_goals
      go_ret2
      refine ⟨⟨_, _, ⟨d1, d2, ?_⟩, rfl⟩, below2 (o := o) (by repeat (first | exact But.refl _ _ | assumption | refine But.drew ?_ | refine But.alloc ?_ _ | refine But.trans ?_ (by assumption))) HRB.out⟩
      first | omega | (rw [IntKind.wrap_u64]; omega)
  · go_wp2_with (first | (go_at_call 19; refine (pick_k rb _ _ _ (by assumption) (by decide)).mono ?_; rintro e wx ⟨⟨v, ⟨va, vb⟩, rfl⟩, hR, hB⟩) | (go_at_call 20; refine (big_k rb _ _ (by assumption)).mono ?_; rintro e wx ⟨⟨v, ⟨va, vb⟩, rfl⟩, hR, hB⟩))
    all_goals
      go_ret2
      refine ⟨⟨_, _, ⟨d1, d2, ?_⟩, rfl⟩, below2 (o := o) (by repeat (first | exact But.refl _ _ | assumption | refine But.drew ?_ | refine But.alloc ?_ _ | refine But.trans ?_ (by assumption))) HRB.out⟩
      first | omega | (rw [IntKind.wrap_u64]; omega)
  · go_wp2_with (first | (go_at_call 19; refine (pick_k rb _ _ _ (by assumption) (by decide)).mono ?_; rintro e wx ⟨⟨v, ⟨va, vb⟩, rfl⟩, hR, hB⟩) | (go_at_call 20; refine (big_k rb _ _ (by assumption)).mono ?_; rintro e wx ⟨⟨v, ⟨va, vb⟩, rfl⟩, hR, hB⟩))
    all_goals
      go_ret2
      refine ⟨⟨_, _, ⟨d1, d2, ?_⟩, rfl⟩, below2 (o := o) (by repeat (first | exact But.refl _ _ | assumption | refine But.drew ?_ | refine But.alloc ?_ _ | refine But.trans ?_ (by assumption))) HRB.out⟩
      first | omega | (rw [IntKind.wrap_u64]; omega)
  · go_wp2_with (first | (go_at_call 19; refine (pick_k rb _ _ _ (by assumption) (by decide)).mono ?_; rintro e wx ⟨⟨v, ⟨va, vb⟩, rfl⟩, hR, hB⟩) | (go_at_call 20; refine (big_k rb _ _ (by assumption)).mono ?_; rintro e wx ⟨⟨v, ⟨va, vb⟩, rfl⟩, hR, hB⟩))
    all_goals
      go_ret2
      refine ⟨⟨_, _, ⟨d1, d2, ?_⟩, rfl⟩, below2 (o := o) (by repeat (first | exact But.refl _ _ | assumption | refine But.drew ?_ | refine But.alloc ?_ _ | refine But.trans ?_ (by assumption))) HRB.out⟩
      first | omega | (rw [IntKind.wrap_u64]; omega)
  · have f0 : (v0 == 0) = false := by simp; omega
    have f1 : (v0 == 1) = false := by simp; omega
    have f2 : (v0 == 2) = false := by simp; omega
    have f3 : (v0 == 3) = false := by simp; omega
    go_wp2_with (first | (go_at_call 19; refine (pick_k rb _ _ _ (by assumption) (by decide)).mono ?_; rintro e wx ⟨⟨v, ⟨va, vb⟩, rfl⟩, hR, hB⟩) | (go_at_call 20; refine (big_k rb _ _ (by assumption)).mono ?_; rintro e wx ⟨⟨v, ⟨va, vb⟩, rfl⟩, hR, hB⟩))
    all_goals
      go_ret2
      refine ⟨⟨_, _, ⟨d1, d2, ?_⟩, rfl⟩, below2 (o := o) (by repeat (first | exact But.refl _ _ | assumption | refine But.drew ?_ | refine But.alloc ?_ _ | refine But.trans ?_ (by assumption))) HRB.out⟩
      first | omega | (rw [IntKind.wrap_u64]; omega)
end Go.Proofs.YtljmmaaaeojbpaaDoor
