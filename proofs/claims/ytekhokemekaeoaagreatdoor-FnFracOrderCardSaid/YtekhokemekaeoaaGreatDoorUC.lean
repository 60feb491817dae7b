/- Draws of numbers off a code: a number each, nothing that was there is written. -/
import Derived.Test.YtekhokemekaeoaaGreatDoorUB
namespace Go.Proofs.YtekhokemekaeoaaGreatDoor
open Go.RowKit
set_option linter.unusedVariables false
set_option maxRecDepth 100000

/-- a reader that can still be read k times -/
def Rk (w : World) (rb : Nat) (k : Nat) : Prop := ∃ p : Int, (0 ≤ p ∧ p + k ≤ 1000000) ∧ Rd w rb p
theorem Rk.mono {w : World} {rb k j : Nat} (h : Rk w rb k) (hj : j ≤ k) : Rk w rb j := by
  obtain ⟨p, hp, hr⟩ := h
  exact ⟨p, by omega, hr⟩
theorem Rk.old {w w' : World} {rb k : Nat} (h : Rk w rb k) (b : Below w.heap.size w w') : Rk w' rb k := by
  obtain ⟨p, hp, hr⟩ := h
  exact ⟨p, hp, hr.old b⟩
theorem Rk.alloc {w : World} {rb k : Nat} (h : Rk w rb k) (o : Obj) : Rk (w.alloc o) rb k := h.old ((Below.refl _ _).alloc (Nat.le_refl _) o)
theorem Rk.lt {w : World} {rb k : Nat} (h : Rk w rb k) : rb < w.heap.size := by
  obtain ⟨p, _, a, len, cap, h0, _⟩ := h
  exact h0
theorem Rk.far {w : World} {rb k : Nat} (h : Rk w rb k) (b i : Nat) (hb : rb < b) (v : Value) : Rk (w.setCell ⟨b, i, none⟩ v) rb k := by
  obtain ⟨p, hp, hr⟩ := h
  exact ⟨p, hp, hr.far b i hb v⟩
/-- two cells of another block than the reader's, that can be written -/
def Two (w : World) (b : Nat) : Prop := ∃ x y : Value, w.cell? ⟨b, 0, none⟩ = some x ∧ w.cell? ⟨b, 1, none⟩ = some y ∧ w.frozen? ⟨b, 0, none⟩ = false ∧ w.frozen? ⟨b, 1, none⟩ = false ∧ b < w.heap.size
theorem Two.but {w w' : World} {b rb : Nat} (h : Two w b) (k : But rb w w') (hne : b ≠ rb) : Two w' b := by
  obtain ⟨x, y, h1, h2, h3, h4, h5⟩ := h
  have e := k.block b h5 hne
  exact ⟨x, y, (World.cell?_of_block (w := w) (a := ⟨b, 0, none⟩) e).trans h1, (World.cell?_of_block (w := w) (a := ⟨b, 1, none⟩) e).trans h2, (World.frozen?_of_block (w := w) (a := ⟨b, 0, none⟩) e).trans h3, (World.frozen?_of_block (w := w) (a := ⟨b, 1, none⟩) e).trans h4, Nat.lt_of_lt_of_le h5 k.size⟩
theorem pick_k (rb k : Nat) (n : Int) (w : World) (h : Rk w rb (k + 1)) (n1 : 1 ≤ n) :
    Calls Tryz.prog 48 #[.pointer (some ⟨rb, 0, none⟩), .int .i64 n] w fun e w' => (∃ v : Int, (0 ≤ v ∧ v < n) ∧ e = .returned (.int .i64 v)) ∧ Rk w' rb k ∧ But rb w w' := by
  obtain ⟨p, hp, hr⟩ := h
  refine (pick_any rb p n w hr hp.1 (by omega) n1).mono ?_
  rintro e w' ⟨hv, hr', hb⟩
  exact ⟨hv, ⟨p + 1, by omega, hr'⟩, hb⟩

/-- a code: a slice of bytes that came in -/
def IsCode (w : World) (a : Option Addr) (len cap : Nat) : Prop :=
  len ≤ cap ∧ (cap : Int) ≤ 9223372036854775807 ∧ (len = 0 ∨ ∃ bb off : Nat, a = some ⟨bb, off, none⟩ ∧ bb < w.heap.size ∧ ∀ i, i < len → ∃ z : Int, 0 ≤ z ∧ z ≤ 255 ∧ w.cell? ⟨bb, off + i, none⟩ = some (.int .u8 z))
theorem IsCode.old {w w' : World} {a : Option Addr} {len cap : Nat} (h : IsCode w a len cap) (b : Below w.heap.size w w') : IsCode w' a len cap := by
  obtain ⟨h1, h2, h3⟩ := h
  refine ⟨h1, h2, ?_⟩
  rcases h3 with h3 | ⟨bb, off, q1, q2, q3⟩
  · exact .inl h3
  · refine .inr ⟨bb, off, q1, Nat.lt_of_lt_of_le q2 b.size, fun i hi => ?_⟩
    obtain ⟨z, z0, z1, hz⟩ := q3 i hi
    exact ⟨z, z0, z1, (b.cell (p := ⟨bb, off + i, none⟩) q2).trans hz⟩

theorem made_rk (w : World) (a : Option Addr) (len len' cap : Nat) (h : IsCode w a len cap) (hl : len' ≤ len) (h2 : len' ≤ 2000) : Rk (w.alloc (.cells #[.slice a len' cap, .int .i64 0] 75)) w.heap.size 1000 := by
  obtain ⟨h1, _, h3⟩ := h
  refine ⟨0, by omega, a, len', cap, by simp, by simp, by simp, by simp, h2, by omega, ?_⟩
  rcases h3 with h3 | ⟨bb, off, q1, q2, q3⟩
  · exact .inl (by omega)
  · refine .inr ⟨bb, off, q1, q2, by simp; omega, fun i hi => ?_⟩
    obtain ⟨z, z0, z1, hz⟩ := q3 i (by omega)
    exact ⟨z, z0, z1, (World.cell?_alloc_lt _ _ _ q2).trans hz⟩

set_option maxHeartbeats 400000 in
theorem open_few (w : World) (a : Option Addr) (len cap : Nat) (h : (len : Int) ≤ 2000) :
    Calls Tryz.prog 28 #[.slice a len cap] w fun e w' => e = .returned (.pointer (some ⟨w.heap.size, 0, none⟩)) ∧ w' = w.alloc (.cells #[.slice a len cap, .int .i64 0] 75) := by
  have t1 : decide ((2000 : Int) < (len : Int)) = false := by simp; omega
  go_enter Tryz.func28, Tryz.ntmps28
  go_wp2
  go_ret
  exact ⟨rfl, rfl⟩
set_option maxHeartbeats 400000 in
theorem open_many (w : World) (bb off len cap : Nat) (h : (2000 : Int) < (len : Int)) (hc : (len : Int) ≤ (cap : Int)) (hm : (cap : Int) ≤ 9223372036854775807) :
    Calls Tryz.prog 28 #[.slice (some ⟨bb, off, none⟩) len cap] w fun e w' => e = .returned (.pointer (some ⟨w.heap.size, 0, none⟩)) ∧ w' = w.alloc (.cells #[.slice (some ⟨bb, off, none⟩) 2000 cap, .int .i64 0] 75) := by
  have t1 : decide ((2000 : Int) < (len : Int)) = true := by simp; omega
  have t2 : (2000 : Int) ≤ (cap : Int) := by omega
  go_enter Tryz.func28, Tryz.ntmps28
  go_wp2
  go_ret
  exact ⟨rfl, rfl⟩
theorem open_k (w : World) (a : Option Addr) (len cap : Nat) (h : IsCode w a len cap) :
    Calls Tryz.prog 28 #[.slice a len cap] w fun e w' => e = .returned (.pointer (some ⟨w.heap.size, 0, none⟩)) ∧ ∃ o, w' = w.alloc o ∧ Rk (w.alloc o) w.heap.size 1000 := by
  by_cases hl : len ≤ 2000
  · refine (open_few w a len cap (by omega)).mono ?_
    rintro e w' ⟨rfl, rfl⟩
    exact ⟨rfl, _, rfl, made_rk w a len len cap h (Nat.le_refl _) hl⟩
  · have h' := h
    obtain ⟨h1, h2, h3⟩ := h'
    rcases h3 with h3 | ⟨bb, off, rfl, q2, q3⟩
    · omega
    · refine (open_many w bb off len cap (by omega) (by omega) h2).mono ?_
      rintro e w' ⟨rfl, rfl⟩
      exact ⟨rfl, _, rfl, made_rk w _ len 2000 cap h (by omega) (by omega)⟩

end Go.Proofs.YtekhokemekaeoaaGreatDoor
