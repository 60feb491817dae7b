/- How many parts a node of a term is made of, of both sides. Nothing that was there is written. No condition. -/
import Derived.Test.YtafpjgojmpjajaaZQ
import Derived.Test.YtafpjgojmpjajaaZD
import Derived.Deep.RegionHeld3
namespace Go.Proofs.Ytafpjgojmpjajaa
open Go.RowKit
set_option linter.unusedVariables false
set_option maxRecDepth 100000

theorem six_oldN {w' w'' : World} {b b' o0 o1 o2 p0 p1 p2 : Nat} {v0 v1 v2 v3 v4 v5 : Value} (hS : w'.cell? ⟨b, o0, none⟩ = some v0 ∧ w'.cell? ⟨b, o1, none⟩ = some v1 ∧ w'.cell? ⟨b, o2, none⟩ = some v2 ∧ w'.cell? ⟨b', p0, none⟩ = some v3 ∧ w'.cell? ⟨b', p1, none⟩ = some v4 ∧ w'.cell? ⟨b', p2, none⟩ = some v5) (k : Below w'.heap.size w' w'') :
    w''.cell? ⟨b, o0, none⟩ = some v0 ∧ w''.cell? ⟨b, o1, none⟩ = some v1 ∧ w''.cell? ⟨b, o2, none⟩ = some v2 ∧ w''.cell? ⟨b', p0, none⟩ = some v3 ∧ w''.cell? ⟨b', p1, none⟩ = some v4 ∧ w''.cell? ⟨b', p2, none⟩ = some v5 := by
  obtain ⟨a1, a2, a3, a4, a5, a6⟩ := hS
  exact ⟨(k.cell (World.block_lt_of_cell? _ _ a1)).trans a1, (k.cell (World.block_lt_of_cell? _ _ a2)).trans a2, (k.cell (World.block_lt_of_cell? _ _ a3)).trans a3, (k.cell (World.block_lt_of_cell? _ _ a4)).trans a4, (k.cell (World.block_lt_of_cell? _ _ a5)).trans a5, (k.cell (World.block_lt_of_cell? _ _ a6)).trans a6⟩
set_option maxHeartbeats 1000000 in
theorem lSzNode (x y l : Int) (s : ByteArray) (hs : s.size ≤ maxLen) (h0 : 0 ≤ l) (h1 : l ≤ 1048576) (w : World) :
    Calls Try.prog 23 #[.agg #[.int .i64 x, .int .i64 y, .string s], .int .i64 l] w fun e w' => e = .returned (.int .i64 (if (s.size : Int) ≤ l then l - s.size else -1)) ∧ Below w.heap.size w w' := by
  unfold maxLen at hs
  by_cases c : (s.size : Int) ≤ l
  · rw [if_pos c]
    go_enter Try.func23, Try.ntmps23
    go_wp2
    go_ret
    exact ⟨rfl, (by repeat (first | exact Below.refl _ _ | refine Below.drew ?_ | refine old_alloc ?_ _ | refine old_trans ?_ (by assumption)))⟩
  · rw [if_neg c]
    go_enter Try.func23, Try.ntmps23
    go_wp2
    go_ret
    exact ⟨rfl, (by repeat (first | exact Below.refl _ _ | refine Below.drew ?_ | refine old_alloc ?_ _ | refine old_trans ?_ (by assumption)))⟩
set_option maxHeartbeats 2000000 in
theorem lSzNodes (a : Option Addr) (len cap : Nat) (xs : List Tn) (w : World) (hR : InN w a len cap xs) :
    Calls Try.prog 13 #[.slice a len cap, .int .i64 1048576] w fun e w' => (∃ r : Int, e = .returned (.int .i64 r) ∧ (r = -1 ∨ (0 ≤ r ∧ r ≤ 1048576 ∧ len ≤ 1048576))) ∧ Below w.heap.size w w' := by
  have hlen : len ≤ maxLen := Nat.le_trans hR.2.1 hR.2.2.1
  unfold maxLen at hlen
  by_cases hl : len ≤ 1048576
  case neg =>
    go_enter Try.func13, Try.ntmps13
    go_wp2
    go_ret
    exact ⟨⟨_, rfl, .inl rfl⟩, (by repeat (first | exact Below.refl _ _ | refine Below.drew ?_ | refine old_alloc ?_ _ | refine old_trans ?_ (by assumption)))⟩
  go_enter Try.func13, Try.ntmps13
  go_wp2
  go_loopw [1, 5] (fun l i wr => ∃ (k : Nat) (r : Int), k ≤ len ∧ i = .int .i64 k ∧ l = .int .i64 r ∧ 0 ≤ r ∧ r ≤ 1048576 ∧ Below w.heap.size w wr) (fun _ i _ => len - (intOf i).toNat)
  case atStart => exact ⟨0, 1048576 - len, by omega, rfl, rfl, by omega, by omega, (by repeat (first | exact Below.refl _ _ | refine Below.drew ?_ | refine old_alloc ?_ _ | refine old_trans ?_ (by assumption)))⟩
  case round =>
    obtain ⟨k, r, hk, rfl, rfl, hr0, hr1, hb⟩ := hrel
    by_cases hlt : k < len
    · obtain ⟨b, off, x, y, s, rfl, hbl, hx, hf, c0, c1, c2⟩ := (hR.old hb).at hlt
      have Z := hd (lSzNode x y r s hf.2.2 hr0 hr1)
      by_cases c : (s.size : Int) ≤ r
      · rw [if_pos c] at Z
        have c' : 0 ≤ r - s.size := by omega
        have c'' : r - s.size ≤ 1048576 := by omega
        clear hf c
        generalize r - s.size = r2 at *
        go_wp2_with fail
        refine (Z.out _).mono ?_
        rintro e w1 ⟨rfl, hb1⟩
        go_wp2
        go_roundw
        case rel => exact ⟨k + 1, r2, by omega, by go_num, rfl, c', c'', hb.trans (hb1.mono hb.size)⟩
        case measure => simp [intOf]; omega
      · rw [if_neg c] at Z
        clear hf c
        go_wp2_with fail
        refine (Z.out _).mono ?_
        rintro e w1 ⟨rfl, hb1⟩
        go_wp2
        go_ret
        exact ⟨⟨_, rfl, .inl rfl⟩, hb.trans (hb1.mono hb.size)⟩
    · obtain rfl : k = len := by omega
      go_wp2
      go_ret
      exact ⟨⟨_, rfl, .inr ⟨hr0, hr1, hl⟩⟩, hb⟩
set_option maxHeartbeats 1000000 in
theorem lSzTerm (a : Option Addr) (len cap : Nat) (xs : List Tn) (w : World) (hR : InN w a len cap xs) :
    Calls Try.prog 4 #[.agg #[.slice a len cap], .int .i64 1048576] w fun e w' => (∃ r : Int, e = .returned (.int .i64 r) ∧ (r = -1 ∨ (0 ≤ r ∧ r ≤ 1048576 ∧ len ≤ 1048576))) ∧ Below w.heap.size w w' := by
  have Z := hd (lSzNodes a len cap xs _ (hR.old ((Below.refl _ w).alloc (Nat.le_refl _) (.cells #[.slice a len cap] 24))))
  clear hR
  go_enter Try.func4, Try.ntmps4
  go_wp2_with fail
  refine Z.out.mono ?_
  rintro e w1 ⟨⟨r, rfl, hr⟩, hb1⟩
  have hB := old_trans (old_alloc (Below.refl _ w) _) hb1
  rcases hr with rfl | ⟨h0, h1, h2⟩
  · go_wp2
    go_ret
    exact ⟨⟨_, rfl, .inl rfl⟩, hB⟩
  · go_wp2
    go_ret
    exact ⟨⟨_, rfl, .inr ⟨h0, h1, h2⟩⟩, hB⟩
set_option maxHeartbeats 1000000 in
theorem lEqNode (x y : Int) (s : ByteArray) (w : World) :
    Calls Try.prog 29 #[.agg #[.int .i64 x, .int .i64 y, .string s], .agg #[.int .i64 x, .int .i64 y, .string s]] w fun e w' => e = .returned (.bool true) ∧ Below w.heap.size w w' := by
  go_enter Try.func29, Try.ntmps29
  go_wp2
  go_ret
  exact ⟨rfl, (by repeat (first | exact Below.refl _ _ | refine Below.drew ?_ | refine old_alloc ?_ _ | refine old_trans ?_ (by assumption)))⟩
set_option maxHeartbeats 2000000 in
theorem lEqNodes (a a' : Option Addr) (len cap cap' : Nat) (xs : List Tn) (w : World) (hR : InN w a len cap xs) (hR' : InN w a' len cap' xs) :
    Calls Try.prog 20 #[.slice a len cap, .slice a' len cap'] w fun e w' => e = .returned (.bool true) ∧ Below w.heap.size w w' := by
  have hlen : len ≤ maxLen := Nat.le_trans hR.2.1 hR.2.2.1
  unfold maxLen at hlen
  go_enter Try.func20, Try.ntmps20
  go_wp2
  go_loopw [5] (fun a wr => ∃ k : Nat, k ≤ len ∧ a = .int .i64 k ∧ Below w.heap.size w wr) (fun b _ => len - (intOf b).toNat)
  case atStart => exact ⟨0, by omega, rfl, (by repeat (first | exact Below.refl _ _ | refine Below.drew ?_ | refine old_alloc ?_ _ | refine old_trans ?_ (by assumption)))⟩
  case round =>
    obtain ⟨k, hk, rfl, hb⟩ := hrel
    by_cases hlt : k < len
    · obtain ⟨b, off, x, y, s, rfl, hbl, hx, -, c0, c1, c2⟩ := (hR.old hb).at hlt
      obtain ⟨b', off', x', y', s', rfl, hbl', hx', -, c0', c1', c2'⟩ := (hR'.old hb).at hlt
      obtain ⟨rfl, rfl, rfl⟩ := Tn.mk.inj (hx.symm.trans hx')
      clear hx hx'
      have E := hd (lEqNode x y s)
      go_wp2_with fail
      have U := hd (fun w' (hS : w'.cell? ⟨b, off + k * 3, none⟩ = some (.int .i64 x) ∧ w'.cell? ⟨b, off + k * 3 + 1, none⟩ = some (.int .i64 y) ∧ w'.cell? ⟨b, off + k * 3 + 2, none⟩ = some (.string s) ∧ w'.cell? ⟨b', off' + k * 3, none⟩ = some (.int .i64 x) ∧ w'.cell? ⟨b', off' + k * 3 + 1, none⟩ = some (.int .i64 y) ∧ w'.cell? ⟨b', off' + k * 3 + 2, none⟩ = some (.string s)) => (E.out w').mono (fun e w'' (q : _ ∧ _) => (⟨q, six_oldN hS q.2⟩ : (_ ∧ _) ∧ (w''.cell? ⟨b, off + k * 3, none⟩ = some (.int .i64 x) ∧ w''.cell? ⟨b, off + k * 3 + 1, none⟩ = some (.int .i64 y) ∧ w''.cell? ⟨b, off + k * 3 + 2, none⟩ = some (.string s) ∧ w''.cell? ⟨b', off' + k * 3, none⟩ = some (.int .i64 x) ∧ w''.cell? ⟨b', off' + k * 3 + 1, none⟩ = some (.int .i64 y) ∧ w''.cell? ⟨b', off' + k * 3 + 2, none⟩ = some (.string s)))))
      go_region_held3 (fun w' => w'.cell? ⟨b, off + k * 3, none⟩ = some (.int .i64 x) ∧ w'.cell? ⟨b, off + k * 3 + 1, none⟩ = some (.int .i64 y) ∧ w'.cell? ⟨b, off + k * 3 + 2, none⟩ = some (.string s) ∧ w'.cell? ⟨b', off' + k * 3, none⟩ = some (.int .i64 x) ∧ w'.cell? ⟨b', off' + k * 3 + 1, none⟩ = some (.int .i64 y) ∧ w'.cell? ⟨b', off' + k * 3 + 2, none⟩ = some (.string s)) (go_keep) (first | (go_at_call 29; with_reducible refine (U.out _ (by assumption)).mono ?_; rintro e w1 ⟨⟨rfl, hb1⟩, hc1⟩))
      all_goals
        have hB : Below w.heap.size w w1 := hb.drew.trans (hb1.mono hb.size)
        go_wp2
        go_roundw
        case rel => exact ⟨k + 1, by omega, by go_num, hB⟩
        case measure => simp [intOf]; omega
    · obtain rfl : k = len := by omega
      go_wp2
      go_ret
      exact ⟨rfl, hb⟩
set_option maxHeartbeats 1000000 in
theorem lEqTerm (a a' : Option Addr) (len cap cap' : Nat) (xs : List Tn) (w : World) (hR : InN w a len cap xs) (hR' : InN w a' len cap' xs) :
    Calls Try.prog 9 #[.agg #[.slice a len cap], .agg #[.slice a' len cap']] w fun e w' => e = .returned (.bool true) ∧ Below w.heap.size w w' := by
  have e0 : Below w.heap.size w ((w.alloc (.cells #[.slice a len cap] 30)).alloc (.cells #[.slice a' len cap'] 30)) := old_alloc (old_alloc (Below.refl _ _) _) _
  have E := hd (lEqNodes a a' len cap cap' xs _ (hR.old e0) (hR'.old e0))
  clear hR hR'
  go_enter Try.func9, Try.ntmps9
  go_wp2_with fail
  refine E.out.mono ?_
  rintro e w1 ⟨rfl, hb1⟩
  go_wp2
  go_ret
  exact ⟨rfl, old_trans e0 hb1⟩
end Go.Proofs.Ytafpjgojmpjajaa
