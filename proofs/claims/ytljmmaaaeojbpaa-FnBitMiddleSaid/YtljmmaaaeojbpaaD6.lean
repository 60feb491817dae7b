/- The draw of two numbers: nothing that was there is written. -/
import Derived.Test.YtljmmaaaeojbpaaD5
import Derived.Deep.QuietTactic
import Derived.BigQuiet
namespace Go.Proofs.Ytljmmaaaeojbpaa
open Go.RowKit


set_option maxHeartbeats 1000000 in
theorem two_k (w : World) (c : Option Addr) (len cap : Nat) (h : IsCode w c len cap) :
    Calls Try.prog 65 #[.slice c len cap] w fun e w' => (∃ a b : Int, ((-9223372036854775808 ≤ a ∧ a ≤ 9223372036854775807) ∧ -9223372036854775808 ≤ b ∧ b ≤ 9223372036854775807) ∧ e = .returned (.tuple #[.int .i64 a, .int .i64 b])) ∧ Below w.heap.size w w' := by
  go_enter Try.func65, Try.ntmps65
  go_wp2_with fail
  refine (open_k w c len cap h).mono ?_
  rintro e w1 ⟨rfl, o, rfl, hR⟩
  clear h
  go_wp2_with fail
  refine (pick_k w.heap.size _ _ _ (hR.alloc _) (by decide)).mono ?_
  rintro e w2 ⟨⟨u, ⟨ua, ub⟩, rfl⟩, hR2, hB2⟩
  have hc : ∀ i, w2.cell? ⟨w.heap.size + 1, i, none⟩ = (#[Value.int IntKind.i64 32, Value.int IntKind.i64 64] : Array Value)[i]? := fun i =>
    (World.cell?_of_block (w := (w.alloc o).alloc (.cells #[Value.int IntKind.i64 32, Value.int IntKind.i64 64] 3)) (hB2.block (w.heap.size + 1) (by simp) (by omega))).trans (by rw [show w.heap.size + 1 = (w.alloc o).heap.size by simp]; simp)
  have hB : But w.heap.size (w.alloc o) w2 := ((But.refl _ _).alloc _).trans hB2
  have hlt2 := hR2.lt
  clear hB2 hR
  have h2 : u = 0 ∨ u = 1 := by omega
  rcases h2 with rfl | rfl
  all_goals
    go_wp2_with fail
    refine (pair_k w.heap.size 100 _ _ (Rk.mono hR2 (by omega))).mono ?_
    rintro e w3 ⟨⟨a, b, ⟨⟨a1, a2⟩, b1, b2⟩, rfl⟩, hR3, hB3⟩
    have hlt3 := hR3.lt
    replace hB := hB.trans hB3
    clear hB3 hR2 hc
    go_wp2_with fail
    refine (pick_k w.heap.size 99 _ _ (hR3.alloc _) (by decide)).mono ?_
    rintro e w4 ⟨⟨v, ⟨va, vb⟩, rfl⟩, hR4, hB4⟩
    have c0 : w4.cell? ⟨w3.heap.size, 0, none⟩ = some (.int .i64 a) :=
      (World.cell?_of_block (w := w3.alloc (.cells #[.int .i64 a, .int .i64 b] 69)) (a := ⟨w3.heap.size, 0, none⟩) (hB4.block w3.heap.size (by simp) (by omega))).trans (by simp)
    have c1 : w4.cell? ⟨w3.heap.size, 1, none⟩ = some (.int .i64 b) :=
      (World.cell?_of_block (w := w3.alloc (.cells #[.int .i64 a, .int .i64 b] 69)) (a := ⟨w3.heap.size, 1, none⟩) (hB4.block w3.heap.size (by simp) (by omega))).trans (by simp)
    replace hB := (hB.alloc (.cells #[.int .i64 a, .int .i64 b] 69)).trans hB4
    clear hB4 hR3
    by_cases hv : v = 0
    · subst hv
      go_wp2_with fail
      refine (big_k w.heap.size 50 _ (Rk.mono hR4 (by omega))).mono ?_
      rintro e w5 ⟨⟨x, ⟨x1, x2⟩, rfl⟩, hR5, hB5⟩
      go_wp2_with fail
      refine (big_k w.heap.size 0 _ (Rk.mono hR5 (by omega))).mono ?_
      rintro e w6 ⟨⟨y, ⟨y1, y2⟩, rfl⟩, hR6, hB6⟩
      go_wp2
      go_ret2
      refine ⟨⟨_, _, ?_, rfl⟩, ((hB.trans hB5).trans hB6).below⟩
      first | omega | (simp only [wrap64]; omega)
    · have f0 : (v == 0) = false := by simp; omega
      go_wp2
      go_quiet (fail)
      go_wp2
      go_ret2
      exact ⟨⟨a, b, ⟨⟨a1, a2⟩, b1, b2⟩, rfl⟩, But.below (hB.drewN _)⟩
set_option maxHeartbeats 400000 in
theorem drawMiddle (w : World) (c : Option Addr) (len cap : Nat) (h : IsCode w c len cap) :
    Calls Try.prog 34 #[.slice c len cap] w fun e w' => (∃ a b : Int, ((-9223372036854775808 ≤ a ∧ a ≤ 9223372036854775807) ∧ -9223372036854775808 ≤ b ∧ b ≤ 9223372036854775807) ∧ e = .returned (.tuple #[.int .i64 a, .int .i64 b])) ∧ Below w.heap.size w w' := by
  go_enter Try.func34, Try.ntmps34
  go_wp2_with fail
  refine (two_k w c len cap h).mono ?_
  rintro e w1 ⟨⟨a, b, hb, rfl⟩, hB⟩
  go_wp2
  go_ret2
  exact ⟨⟨a, b, hb, rfl⟩, hB⟩
end Go.Proofs.Ytljmmaaaeojbpaa
