/- Draws of a width and an order number off a code: two numbers, nothing that was there is written. -/
import Derived.Test.YtdmnfcmngcmleaaD332
import Derived.Test.YtdmnfcmngcmleaaD364
import Derived.Test.YtdmnfcmngcmleaaD3no
namespace Go.Proofs.Ytdmnfcmngcmleaa
open Go.RowKit


/-- a code: a slice of bytes that came in -/
def IsCode (w : World) (a : Option Addr) (len cap : Nat) : Prop :=
  len ≤ cap ∧ (cap : Int) ≤ 9223372036854775807 ∧ (len = 0 ∨ ∃ bb off : Nat, a = some ⟨bb, off, none⟩ ∧ bb < w.heap.size ∧ ∀ i, i < len → ∃ z : Int, 0 ≤ z ∧ z ≤ 255 ∧ w.cell? ⟨bb, off + i, none⟩ = some (.int .u8 z))
theorem IsCode.old {w w' : World} {a : Option Addr} {len cap : Nat} (h : IsCode w a len cap) (b : Below w.heap.size w w') : IsCode w' a len cap := by
  obtain ⟨h1, h2, h3⟩ := h
  refine ⟨h1, h2, ?_⟩
  rcases h3 with h3 | ⟨bb, off, q1, q2, q3⟩
  · exact .inl h3
  · refine .inr ⟨bb, off, q1, Nat.lt_of_lt_of_le q2 b.size, fun i hi => ?_⟩
    obtain ⟨z, z0, z1, hz⟩ := q3 i hi
    exact ⟨z, z0, z1, (b.cell (p := ⟨bb, off + i, none⟩) q2).trans hz⟩

theorem made_rk (w : World) (a : Option Addr) (len len' cap : Nat) (h : IsCode w a len cap) (hl : len' ≤ len) (h2 : len' ≤ 2000) : Rk (w.alloc (.cells #[.slice a len' cap, .int .i64 0] 52)) w.heap.size 1000 := by
  obtain ⟨h1, _, h3⟩ := h
  refine ⟨0, by omega, a, len', cap, by simp, by simp, by simp, by simp, h2, by omega, ?_⟩
  rcases h3 with h3 | ⟨bb, off, q1, q2, q3⟩
  · exact .inl (by omega)
  · refine .inr ⟨bb, off, q1, q2, by simp; omega, fun i hi => ?_⟩
    obtain ⟨z, z0, z1, hz⟩ := q3 i (by omega)
    exact ⟨z, z0, z1, (World.cell?_alloc_lt _ _ _ q2).trans hz⟩

set_option maxHeartbeats 400000 in
theorem open_few (w : World) (a : Option Addr) (len cap : Nat) (h : (len : Int) ≤ 2000) :
    Calls Try.prog 14 #[.slice a len cap] w fun e w' => e = .returned (.pointer (some ⟨w.heap.size, 0, none⟩)) ∧ w' = w.alloc (.cells #[.slice a len cap, .int .i64 0] 52) := by
  have t1 : decide ((2000 : Int) < (len : Int)) = false := by simp; omega
  go_enter Try.func14, Try.ntmps14
  go_wp2
  go_ret
  exact ⟨rfl, rfl⟩
set_option maxHeartbeats 400000 in
theorem open_many (w : World) (bb off len cap : Nat) (h : (2000 : Int) < (len : Int)) (hc : (len : Int) ≤ (cap : Int)) (hm : (cap : Int) ≤ 9223372036854775807) :
    Calls Try.prog 14 #[.slice (some ⟨bb, off, none⟩) len cap] w fun e w' => e = .returned (.pointer (some ⟨w.heap.size, 0, none⟩)) ∧ w' = w.alloc (.cells #[.slice (some ⟨bb, off, none⟩) 2000 cap, .int .i64 0] 52) := by
  have t1 : decide ((2000 : Int) < (len : Int)) = true := by simp; omega
  have t2 : (2000 : Int) ≤ (cap : Int) := by omega
  go_enter Try.func14, Try.ntmps14
  go_wp2
  go_ret
  exact ⟨rfl, rfl⟩
theorem open_k (w : World) (a : Option Addr) (len cap : Nat) (h : IsCode w a len cap) :
    Calls Try.prog 14 #[.slice a len cap] w fun e w' => e = .returned (.pointer (some ⟨w.heap.size, 0, none⟩)) ∧ ∃ o, w' = w.alloc o ∧ Rk (w.alloc o) w.heap.size 1000 := by
  by_cases hl : len ≤ 2000
  · refine (open_few w a len cap (by omega)).mono ?_
    rintro e w' ⟨rfl, rfl⟩
    exact ⟨rfl, _, rfl, made_rk w a len len cap h (Nat.le_refl _) hl⟩
  · have h' := h
    obtain ⟨h1, h2, h3⟩ := h'
    rcases h3 with h3 | ⟨bb, off, rfl, q2, q3⟩
    · omega
    · refine (open_many w bb off len cap (by omega) (by omega) h2).mono ?_
      rintro e w' ⟨rfl, rfl⟩
      exact ⟨rfl, _, rfl, made_rk w _ len 2000 cap h (by omega) (by omega)⟩

theorem ord_any (wd : Int) (rb k : Nat) (w : World) (h : Rk w rb (k + 13)) :
    Calls Try.prog 32 #[.pointer (some ⟨rb, 0, none⟩), .int .i64 wd] w fun e w' => (∃ v : Int, (-9223372036854775808 ≤ v ∧ v ≤ 9223372036854775807) ∧ e = .returned (.int .i64 v)) ∧ Rk w' rb k ∧ But rb w w' := by
  by_cases c1 : wd = 32
  · subst c1; exact ord_32 rb k w h
  by_cases c2 : wd = 64
  · subst c2; exact ord_64 rb k w h
  exact ord_no wd c1 c2 rb k w h

end Go.Proofs.Ytdmnfcmngcmleaa
