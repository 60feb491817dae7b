/- The laws' marks: every number of a list is written over with the next one; the list then holds these, and nothing else is written. Conditions: lists of 2^20 pairs at most. -/
import Derived.Test.YtekbhkklaogmnaaDoorB4
namespace Go.Proofs.YtekbhkklaogmnaaDoor
open Go.RowKit
set_option linter.unusedVariables false
set_option maxRecDepth 100000

theorem grown_setE {w w' : World} {b : Nat} (h : w.grownBy w' (some b)) (i : Nat) (v : Value) : w.grownBy (w'.setCell ⟨b, i, none⟩ v) (some b) :=
  ⟨h.os, h.tape, h.output, by simpa [World.setCell] using h.size, fun k hk hne => (Below.heap_setCell _ _ _ _ (by intro e; exact hne (by rw [e]))).trans (h.block k hk hne)⟩
theorem Cel1.kept {w w' : World} {c : Nat} {v : Value} {row : Option Nat} (h : Cel1 w c v) (g : w.grownBy w' row) (hne : some c ≠ row) : Cel1 w' c v :=
  ⟨(World.cell?_of_block (a := ⟨c, 0, none⟩) (g.block c h.2.2 hne)).trans h.1, (World.frozen?_of_block (a := ⟨c, 0, none⟩) (g.block c h.2.2 hne)).trans h.2.1, Nat.lt_of_lt_of_le h.2.2 g.size⟩
theorem Row.kept {w w' : World} {c : Nat} {ps : List (Int × Int)} {row : Option Nat} (h : Row w c ps) (g : w.grownBy w' row) (hne : some c ≠ row) : Row w' c ps := by
  refine ⟨Nat.lt_of_lt_of_le h.1 g.size, fun i hi => ?_⟩
  obtain ⟨⟨h1, h2⟩, h3, h4⟩ := h.2 i hi
  have e := g.block c h.1 hne
  exact ⟨⟨(World.cell?_of_block (a := ⟨c, i * 2, none⟩) e).trans h1, (World.cell?_of_block (a := ⟨c, i * 2 + 1, none⟩) e).trans h2⟩, (World.frozen?_of_block (a := ⟨c, i * 2, none⟩) e).trans h3, (World.frozen?_of_block (a := ⟨c, i * 2 + 1, none⟩) e).trans h4⟩
theorem InRow.kept {w w' : World} {a : Option Addr} {len cap : Nat} {ps : List (Int × Int)} {row : Option Nat} (h : InRow w a len cap ps) (g : w.grownBy w' row) (hne : ∀ q, a = some q → some q.block ≠ row) : InRow w' a len cap ps := by
  obtain ⟨h1, h2, h3, h4, h5⟩ := h
  refine ⟨h1, h2, h3, h4, ?_⟩
  rcases h5 with h5 | ⟨b, off, q1, q2, q3⟩
  · exact .inl h5
  · refine .inr ⟨b, off, q1, Nat.lt_of_lt_of_le q2 g.size, fun i hi => ?_⟩
    have e := g.block b q2 (hne _ q1)
    exact ⟨(World.cell?_of_block (a := ⟨b, off + i * 2, none⟩) e).trans (q3 i hi).1, (World.cell?_of_block (a := ⟨b, off + (i * 2 + 1), none⟩) e).trans (q3 i hi).2⟩

def marks (k : Int) (n : Nat) : List (Int × Int) := (List.range n).map (fun (i : Nat) => (k + 2 * (i : Int), k + 2 * (i : Int) + 1))
theorem marks_length (k : Int) (n : Nat) : (marks k n).length = n := by simp [marks]
theorem marks_getD (k : Int) {n i : Nat} (h : i < n) : (marks k n).getD i (0, 0) = (k + 2 * (i : Int), k + 2 * (i : Int) + 1) := by
  simp [marks, List.getD_eq_getElem?_getD, h]
theorem marks_fits {k : Int} {n : Nat} (h0 : 0 ≤ k) (h1 : k ≤ 16777216) (hn : n ≤ 1048576) : Fits (marks k n) := by
  intro p hp
  unfold marks at hp
  obtain ⟨i, hi, rfl⟩ := List.mem_map.1 hp
  have := List.mem_range.1 hi
  dsimp only
  omega

set_option maxHeartbeats 2000000 in
theorem lMarks (b cap : Nat) (ps : List (Int × Int)) (k : Int) (w : World) (hr : Row w b ps) (hl : ps.length ≤ 1048576) (k0 : 0 ≤ k) (k1 : k ≤ 16777216) :
    Calls Tryd.prog 18 #[.slice (some ⟨b, 0, none⟩) ps.length cap, .int .i64 k] w fun e w' => e = .returned (.int .i64 (k + 2 * ps.length)) ∧ Row w' b (marks k ps.length) ∧ w.grownBy w' (some b) := by
  go_enter Tryd.func18, Tryd.ntmps18
  go_wp2
  go_loopw [1, 5] (fun s i wr => ∃ (j : Nat) (qs : List (Int × Int)), j ≤ ps.length ∧ s = .int .i64 (k + 2 * j) ∧ i = .int .i64 j ∧ Upto j qs (marks k ps.length) ∧ Row wr b qs ∧ w.grownBy wr (some b)) (fun _ b _ => ps.length - (intOf b).toNat)
  case atStart => exact ⟨0, ps, by omega, by simp, rfl, ⟨by rw [marks_length], fun i h => absurd h (by omega)⟩, hr, World.grownBy.refl _ _⟩
  case round =>
    obtain ⟨j, qs, hj, rfl, rfl, hu, hrr, hg⟩ := hrel
    have hql : qs.length = ps.length := by rw [hu.1, marks_length]
    by_cases hlt : j < ps.length
    · obtain ⟨x', y', -, d0, d1, d2, d3⟩ := hrr.at (k := j) (by omega)
      have hst := hrr.set j (by omega) (k + 2 * j) (k + 2 * j + 1)
      have hup := hu.step (by rw [marks_length]; omega)
      rw [marks_getD k hlt] at hup
      go_wp2
      go_roundw
      case rel => exact ⟨j + 1, _, by omega, by go_num, by go_num, hup, hst, grown_setE (grown_setE hg _ _) _ _⟩
      case measure => simp [intOf]; omega
    · obtain rfl : j = ps.length := by omega
      have hq : qs = marks k ps.length := Upto.all (by rw [marks_length]; exact hu)
      subst hq
      go_wp2
      go_ret
      exact ⟨rfl, hrr, hg⟩
set_option maxHeartbeats 1000000 in
theorem lMarksNone (a : Option Addr) (cap : Nat) (k : Int) (w : World) :
    Calls Tryd.prog 18 #[.slice a 0 cap, .int .i64 k] w fun e w' => e = .returned (.int .i64 k) ∧ w' = w := by
  go_enter Tryd.func18, Tryd.ntmps18
  go_wp2
  go_loopw [1, 5] (fun s i wr => s = .int .i64 k ∧ i = .int .i64 0 ∧ wr = w) (fun _ _ _ => 0)
  case atStart => exact ⟨rfl, rfl, rfl⟩
  case round =>
    obtain ⟨rfl, rfl, rfl⟩ := hrel
    go_wp2
    go_ret
    exact ⟨rfl, rfl⟩
set_option maxHeartbeats 2000000 in
theorem lHeld (a : Option Addr) (cap n : Nat) (k : Int) (w : World) (hR : InRow w a n cap (marks k n)) (hl : n ≤ 1048576) (k0 : 0 ≤ k) (k1 : k ≤ 16777216) :
    Calls Tryd.prog 19 #[.slice a n cap, .int .i64 k] w fun e w' => e = .returned (.int .i64 (k + 2 * n)) ∧ w' = w := by
  go_enter Tryd.func19, Tryd.ntmps19
  go_wp2
  go_loopw [1, 5] (fun s i wr => ∃ j : Nat, j ≤ n ∧ s = .int .i64 (k + 2 * j) ∧ i = .int .i64 j ∧ wr = w) (fun _ b _ => n - (intOf b).toNat)
  case atStart => exact ⟨0, by omega, by simp, rfl, rfl⟩
  case round =>
    obtain ⟨j, hj, rfl, rfl, rfl⟩ := hrel
    by_cases hlt : j < n
    · obtain ⟨b, off, x, y, rfl, hbl, hx, -, c0, c1⟩ := hR.at hlt
      rw [marks_getD k hlt] at hx
      obtain ⟨rfl, rfl⟩ := Prod.mk.inj hx
      go_wp2
      go_roundw
      case rel => exact ⟨j + 1, by omega, by go_num, by go_num, trivial⟩
      case measure => simp [intOf]; omega
    · obtain rfl : j = n := by omega
      go_wp2
      go_ret
      exact ⟨rfl, rfl⟩
set_option maxHeartbeats 1000000 in
theorem lMarkBox (b cap : Nat) (ps : List (Int × Int)) (k : Int) (w : World) (hr : Row w b ps) (hl : ps.length ≤ 1048576) (k0 : 0 ≤ k) (k1 : k ≤ 16777216) :
    Calls Tryd.prog 10 #[.agg #[.slice (some ⟨b, 0, none⟩) ps.length cap], .int .i64 k] w fun e w' => e = .returned (.int .i64 (k + 2 * ps.length)) ∧ Row w' b (marks k ps.length) ∧ w.grownBy w' (some b) := by
  have h0 := hr.old ((Below.refl _ w).alloc (Nat.le_refl _) (.cells #[.slice (some ⟨b, 0, none⟩) ps.length cap] 25))
  have g0 : w.grownBy (w.alloc (.cells #[.slice (some ⟨b, 0, none⟩) ps.length cap] 25)) (some b) := World.grownBy_alloc w _ _
  have H := hd (lMarks b cap ps k _ h0 hl k0 k1)
  go_enter Tryd.func10, Tryd.ntmps10
  go_wp2_with (go_at_call 18; refine H.out.mono ?_; rintro e w1 ⟨rfl, hr1, hg1⟩)
  go_ret
  exact ⟨rfl, hr1, g0.trans hg1⟩
set_option maxHeartbeats 1000000 in
theorem lMarkBoxNone (a : Option Addr) (cap : Nat) (k : Int) (w : World) :
    Calls Tryd.prog 10 #[.agg #[.slice a 0 cap], .int .i64 k] w fun e w' => e = .returned (.int .i64 k) ∧ Below w.heap.size w w' := by
  have H := hd (lMarksNone a cap k)
  go_enter Tryd.func10, Tryd.ntmps10
  go_wp2_with (go_at_call 18; refine (H.out _).mono ?_; rintro e w1 ⟨rfl, rfl⟩)
  go_ret
  exact ⟨rfl, (by repeat (first | exact Below.refl _ _ | refine Below.drew ?_ | refine old_alloc ?_ _ | refine old_trans ?_ (by assumption)))⟩
set_option maxHeartbeats 1000000 in
theorem lHeldBox (a : Option Addr) (cap n : Nat) (k : Int) (w : World) (hR : InRow w a n cap (marks k n)) (hl : n ≤ 1048576) (k0 : 0 ≤ k) (k1 : k ≤ 16777216) :
    Calls Tryd.prog 11 #[.agg #[.slice a n cap], .int .i64 k] w fun e w' => e = .returned (.int .i64 (k + 2 * n)) ∧ Below w.heap.size w w' := by
  have H := hd (lHeld a cap n k _ (hR.alloc (.cells #[.slice a n cap] 25)) hl k0 k1)
  have hk : 0 ≤ k + 2 * (n : Int) := by omega
  go_enter Tryd.func11, Tryd.ntmps11
  go_wp2_with (go_at_call 19; refine H.out.mono ?_; rintro e w1 ⟨rfl, rfl⟩)
  go_ret
  exact ⟨rfl, (by repeat (first | exact Below.refl _ _ | refine Below.drew ?_ | refine old_alloc ?_ _ | refine old_trans ?_ (by assumption)))⟩
end Go.Proofs.YtekbhkklaogmnaaDoor
