/- How many parts a node of a term is made of, of both sides. Nothing that was there is written. No condition. -/
import Derived.Test.YtmpckbgelkfgpaaPK03
import Derived.Test.YtmpckbgelkfgpaaPK10
import Derived.BigQuiet
import Derived.Deep.QuietTactic
namespace Go.Proofs.Ytmpckbgelkfgpaa
open Go.RowKit
set_option linter.unusedVariables false
set_option maxRecDepth 100000

/-- how many parts a node has; -1, if it is none -/
def ac (x : Tn) : Int :=
  if x.k = 1 then (if x.n = 0 ∧ decS x.s = true then 0 else -1)
  else if x.k = 2 then (if x.n = 0 ∧ nameB x.s = true then 0 else -1)
  else if x.k = 3 ∨ x.k = 9 ∨ x.k = 10 then (if x.n = 0 ∧ x.s.size = 0 then 1 else -1)
  else if x.k = 4 ∨ x.k = 5 ∨ x.k = 6 ∨ x.k = 7 ∨ x.k = 11 ∨ x.k = 12 then (if x.n = 0 ∧ x.s.size = 0 then 2 else -1)
  else if x.k = 8 then (if 0 ≤ x.n ∧ x.n ≤ 8 ∧ x.s.size = 0 then 1 else -1)
  else if x.k = 13 then (if 1 ≤ x.n ∧ x.n ≤ 6 ∧ nameB x.s = true then x.n else -1)
  else -1
theorem three_oldN {w' w'' : World} {b o0 o1 o2 : Nat} {v0 v1 v2 : Value} (hS : w'.cell? ⟨b, o0, none⟩ = some v0 ∧ w'.cell? ⟨b, o1, none⟩ = some v1 ∧ w'.cell? ⟨b, o2, none⟩ = some v2) (k : Below w'.heap.size w' w'') :
    w''.cell? ⟨b, o0, none⟩ = some v0 ∧ w''.cell? ⟨b, o1, none⟩ = some v1 ∧ w''.cell? ⟨b, o2, none⟩ = some v2 := by
  obtain ⟨a1, a2, a3⟩ := hS
  exact ⟨(k.cell (World.block_lt_of_cell? _ _ a1)).trans a1, (k.cell (World.block_lt_of_cell? _ _ a2)).trans a2, (k.cell (World.block_lt_of_cell? _ _ a3)).trans a3⟩
theorem below_drewN {n : Nat} {w w' : World} (h : Below n w w') (q : Nat) : Below n w (w'.drewN q) := by
  induction q with
  | zero => exact h
  | succ q ih => exact ih.drew
theorem size_nil {s : ByteArray} (h : s.size = 0) : s = ⟨#[]⟩ := by
  obtain ⟨d⟩ := s
  have : d.size = 0 := h
  rw [Array.size_eq_zero_iff.1 this]
theorem ac1_f {s : ByteArray} (h : decS s = false) : ac ⟨1, 0, s⟩ = -1 := by unfold ac; simp [h]
theorem ac1_t {s : ByteArray} (h : decS s = true) : ac ⟨1, 0, s⟩ = 0 := by unfold ac; simp [h]
theorem ac1_n {n : Int} {s : ByteArray} (h : ¬ n = 0) : ac ⟨1, n, s⟩ = -1 := by unfold ac; simp [h]
theorem ac2_f {s : ByteArray} (h : nameB s = false) : ac ⟨2, 0, s⟩ = -1 := by unfold ac; simp [h]
theorem ac2_t {s : ByteArray} (h : nameB s = true) : ac ⟨2, 0, s⟩ = 0 := by unfold ac; simp [h]
theorem ac2_n {n : Int} {s : ByteArray} (h : ¬ n = 0) : ac ⟨2, n, s⟩ = -1 := by unfold ac; simp [h]
def arity (k c : Int) : Prop := (c = 1 ∧ (k = 3 ∨ k = 9 ∨ k = 10)) ∨ (c = 2 ∧ (k = 4 ∨ k = 5 ∨ k = 6 ∨ k = 7 ∨ k = 11 ∨ k = 12))
instance (k c : Int) : Decidable (arity k c) := by unfold arity; infer_instance
theorem acE (k c n : Int) (s : ByteArray) (h : arity k c) : ac ⟨k, n, s⟩ = if n = 0 ∧ s.size = 0 then c else -1 := by
  unfold ac
  dsimp only
  rcases h with ⟨rfl, h⟩ | ⟨rfl, h⟩
  · rw [if_neg (by omega), if_neg (by omega), if_pos h]
  · rw [if_neg (by omega), if_neg (by omega), if_neg (by omega), if_pos h]
theorem acE_y (k c : Int) (h : arity k c) : ac ⟨k, 0, ⟨#[]⟩⟩ = c := by rw [acE k c _ _ h, if_pos ⟨rfl, rfl⟩]
theorem acE_s (k c : Int) (h : arity k c) {s : ByteArray} (hz : ¬ s.size = 0) : ac ⟨k, 0, s⟩ = -1 := by rw [acE k c _ _ h, if_neg (fun g => hz g.2)]
theorem acE_n (k c : Int) (h : arity k c) {n : Int} {s : ByteArray} (hz : ¬ n = 0) : ac ⟨k, n, s⟩ = -1 := by rw [acE k c _ _ h, if_neg (fun g => hz g.1)]
theorem ac8_y {n : Int} (h0 : 0 ≤ n) (h8 : n ≤ 8) : ac ⟨8, n, ⟨#[]⟩⟩ = 1 := by unfold ac; simp [h0, h8]; rfl
theorem ac8_n {n : Int} {s : ByteArray} (h : ¬ (0 ≤ n ∧ n ≤ 8 ∧ s.size = 0)) : ac ⟨8, n, s⟩ = -1 := by unfold ac; simp only [Int.reduceEq, if_false, or_self]; rw [if_pos trivial, if_neg h]
theorem ac13_f {n : Int} {s : ByteArray} (h : nameB s = false) : ac ⟨13, n, s⟩ = -1 := by unfold ac; simp [h]
theorem ac13_t {n : Int} {s : ByteArray} (h0 : 1 ≤ n) (h6 : n ≤ 6) (h : nameB s = true) : ac ⟨13, n, s⟩ = n := by unfold ac; simp [h, h0, h6]
theorem ac13_n {n : Int} {s : ByteArray} (h : ¬ (1 ≤ n ∧ n ≤ 6)) : ac ⟨13, n, s⟩ = -1 := by unfold ac; simp only [Int.reduceEq, if_false, or_self]; rw [if_pos trivial, if_neg (fun g => h ⟨g.1, g.2.1⟩)]
theorem acO {k n : Int} {s : ByteArray} (h : k < 1 ∨ 13 < k) : ac ⟨k, n, s⟩ = -1 := by
  unfold ac
  dsimp only
  rw [if_neg (by omega), if_neg (by omega), if_neg (by omega), if_neg (by omega), if_neg (by omega), if_neg (by omega)]
theorem k_cases (k : Int) : k = 1 ∨ k = 2 ∨ k = 3 ∨ k = 4 ∨ k = 5 ∨ k = 6 ∨ k = 7 ∨ k = 8 ∨ k = 9 ∨ k = 10 ∨ k = 11 ∨ k = 12 ∨ k = 13 ∨ (k < 1 ∨ 13 < k) := by omega
set_option maxHeartbeats 4000000 in
theorem iPart_1 (n : Int) (s : ByteArray) (w : World) : Calls Try.prog 102 #[.agg #[.int .i64 1, .int .i64 n, .string s]] w fun e w' => (∃ c : Int, e = .returned (.tuple #[.int .i64 c, .bool (decide (0 ≤ ac ⟨1, n, s⟩))]) ∧ (0 ≤ ac ⟨1, n, s⟩ → c = ac ⟨1, n, s⟩)) ∧ Below w.heap.size w w' := by
  by_cases h0 : n = 0
  · subst h0
    by_cases hz : s.size = 0
    · obtain rfl := size_nil hz
      clear hz
      have P := hd (iNumOk ⟨#[]⟩)
      have hBB : Below w.heap.size w (w.alloc (.cells #[.int .i64 1, .int .i64 0, .string ⟨#[]⟩] 104)) := old_alloc (Below.refl _ _) _
      cases hr : decS ⟨#[]⟩
      · rw [hr] at P
        rw [ac1_f hr]
        clear hr
        go_enter Try.func102, Try.ntmps102
        go_wp2_with fail
        refine (P.out _).mono ?_
        rintro e w1 ⟨rfl, hb1⟩
        have hB := old_trans hBB hb1
        have n1 := (CS.made w _ rfl #[.int .i64 1, .int .i64 0, .string ⟨#[]⟩] 104).later hb1
        have m0 := n1.cell 0 _ rfl
        have m1 := n1.cell 1 _ rfl
        have m2 := n1.cell 2 _ rfl
        clear n1 hb1 hBB P
        go_wp2
        all_goals go_ret2
        all_goals exact ⟨⟨_, rfl, fun h => by first | rfl | (exact absurd h (by decide)) | omega⟩, (by repeat (first | with_reducible exact hB | with_reducible exact Below.refl _ _ | with_reducible refine Below.drew ?_ | ((with_reducible refine Below.setCell ?_ ?_ _); rotate_left; (focus (first | (simp; done) | omega | (simp; omega)))) | with_reducible refine old_alloc ?_ _ | with_reducible refine old_trans ?_ (by with_reducible assumption)))⟩
      · rw [hr] at P
        rw [ac1_t hr]
        clear hr
        go_enter Try.func102, Try.ntmps102
        go_wp2_with fail
        refine (P.out _).mono ?_
        rintro e w1 ⟨rfl, hb1⟩
        have hB := old_trans hBB hb1
        have n1 := (CS.made w _ rfl #[.int .i64 1, .int .i64 0, .string ⟨#[]⟩] 104).later hb1
        have m0 := n1.cell 0 _ rfl
        have m1 := n1.cell 1 _ rfl
        have m2 := n1.cell 2 _ rfl
        clear n1 hb1 hBB P
        go_wp2
        all_goals go_ret2
        all_goals exact ⟨⟨_, rfl, fun h => by first | rfl | (exact absurd h (by decide)) | omega⟩, (by repeat (first | with_reducible exact hB | with_reducible exact Below.refl _ _ | with_reducible refine Below.drew ?_ | ((with_reducible refine Below.setCell ?_ ?_ _); rotate_left; (focus (first | (simp; done) | omega | (simp; omega)))) | with_reducible refine old_alloc ?_ _ | with_reducible refine old_trans ?_ (by with_reducible assumption)))⟩
    · have ne := nonempty (s := s) (by omega)
      clear hz
      have P := hd (iNumOk s)
      have hBB : Below w.heap.size w (w.alloc (.cells #[.int .i64 1, .int .i64 0, .string s] 104)) := old_alloc (Below.refl _ _) _
      cases hr : decS s
      · rw [hr] at P
        rw [ac1_f hr]
        clear hr
        go_enter Try.func102, Try.ntmps102
        go_wp2_with fail
        refine (P.out _).mono ?_
        rintro e w1 ⟨rfl, hb1⟩
        have hB := old_trans hBB hb1
        have n1 := (CS.made w _ rfl #[.int .i64 1, .int .i64 0, .string s] 104).later hb1
        have m0 := n1.cell 0 _ rfl
        have m1 := n1.cell 1 _ rfl
        have m2 := n1.cell 2 _ rfl
        clear n1 hb1 hBB P
        go_wp2
        all_goals go_ret2
        all_goals exact ⟨⟨_, rfl, fun h => by first | rfl | (exact absurd h (by decide)) | omega⟩, (by repeat (first | with_reducible exact hB | with_reducible exact Below.refl _ _ | with_reducible refine Below.drew ?_ | ((with_reducible refine Below.setCell ?_ ?_ _); rotate_left; (focus (first | (simp; done) | omega | (simp; omega)))) | with_reducible refine old_alloc ?_ _ | with_reducible refine old_trans ?_ (by with_reducible assumption)))⟩
      · rw [hr] at P
        rw [ac1_t hr]
        clear hr
        go_enter Try.func102, Try.ntmps102
        go_wp2_with fail
        refine (P.out _).mono ?_
        rintro e w1 ⟨rfl, hb1⟩
        have hB := old_trans hBB hb1
        have n1 := (CS.made w _ rfl #[.int .i64 1, .int .i64 0, .string s] 104).later hb1
        have m0 := n1.cell 0 _ rfl
        have m1 := n1.cell 1 _ rfl
        have m2 := n1.cell 2 _ rfl
        clear n1 hb1 hBB P
        go_wp2
        all_goals go_ret2
        all_goals exact ⟨⟨_, rfl, fun h => by first | rfl | (exact absurd h (by decide)) | omega⟩, (by repeat (first | with_reducible exact hB | with_reducible exact Below.refl _ _ | with_reducible refine Below.drew ?_ | ((with_reducible refine Below.setCell ?_ ?_ _); rotate_left; (focus (first | (simp; done) | omega | (simp; omega)))) | with_reducible refine old_alloc ?_ _ | with_reducible refine old_trans ?_ (by with_reducible assumption)))⟩
  · rw [ac1_n h0]
    have h0' : (n == 0) = false := by simp; exact h0
    have hB := Below.refl w.heap.size w
    go_enter Try.func102, Try.ntmps102
    go_wp2
    all_goals go_ret2
    all_goals exact ⟨⟨_, rfl, fun h => by first | rfl | (exact absurd h (by decide)) | omega⟩, (by repeat (first | with_reducible exact hB | with_reducible exact Below.refl _ _ | with_reducible refine Below.drew ?_ | ((with_reducible refine Below.setCell ?_ ?_ _); rotate_left; (focus (first | (simp; done) | omega | (simp; omega)))) | with_reducible refine old_alloc ?_ _ | with_reducible refine old_trans ?_ (by with_reducible assumption)))⟩
set_option maxHeartbeats 4000000 in
theorem iPart_2 (n : Int) (s : ByteArray) (w : World) : Calls Try.prog 102 #[.agg #[.int .i64 2, .int .i64 n, .string s]] w fun e w' => (∃ c : Int, e = .returned (.tuple #[.int .i64 c, .bool (decide (0 ≤ ac ⟨2, n, s⟩))]) ∧ (0 ≤ ac ⟨2, n, s⟩ → c = ac ⟨2, n, s⟩)) ∧ Below w.heap.size w w' := by
  by_cases h0 : n = 0
  · subst h0
    by_cases hz : s.size = 0
    · obtain rfl := size_nil hz
      clear hz
      have P := hd (iNameOk ⟨#[]⟩)
      have hBB : Below w.heap.size w (w.alloc (.cells #[.int .i64 2, .int .i64 0, .string ⟨#[]⟩] 104)) := old_alloc (Below.refl _ _) _
      cases hr : nameB ⟨#[]⟩
      · rw [hr] at P
        rw [ac2_f hr]
        clear hr
        go_enter Try.func102, Try.ntmps102
        go_wp2_with fail
        refine (P.out _).mono ?_
        rintro e w1 ⟨rfl, hb1⟩
        have hB := old_trans hBB hb1
        have n1 := (CS.made w _ rfl #[.int .i64 2, .int .i64 0, .string ⟨#[]⟩] 104).later hb1
        have m0 := n1.cell 0 _ rfl
        have m1 := n1.cell 1 _ rfl
        have m2 := n1.cell 2 _ rfl
        clear n1 hb1 hBB P
        go_wp2
        all_goals go_ret2
        all_goals exact ⟨⟨_, rfl, fun h => by first | rfl | (exact absurd h (by decide)) | omega⟩, (by repeat (first | with_reducible exact hB | with_reducible exact Below.refl _ _ | with_reducible refine Below.drew ?_ | ((with_reducible refine Below.setCell ?_ ?_ _); rotate_left; (focus (first | (simp; done) | omega | (simp; omega)))) | with_reducible refine old_alloc ?_ _ | with_reducible refine old_trans ?_ (by with_reducible assumption)))⟩
      · rw [hr] at P
        rw [ac2_t hr]
        clear hr
        go_enter Try.func102, Try.ntmps102
        go_wp2_with fail
        refine (P.out _).mono ?_
        rintro e w1 ⟨rfl, hb1⟩
        have hB := old_trans hBB hb1
        have n1 := (CS.made w _ rfl #[.int .i64 2, .int .i64 0, .string ⟨#[]⟩] 104).later hb1
        have m0 := n1.cell 0 _ rfl
        have m1 := n1.cell 1 _ rfl
        have m2 := n1.cell 2 _ rfl
        clear n1 hb1 hBB P
        go_wp2
        all_goals go_ret2
        all_goals exact ⟨⟨_, rfl, fun h => by first | rfl | (exact absurd h (by decide)) | omega⟩, (by repeat (first | with_reducible exact hB | with_reducible exact Below.refl _ _ | with_reducible refine Below.drew ?_ | ((with_reducible refine Below.setCell ?_ ?_ _); rotate_left; (focus (first | (simp; done) | omega | (simp; omega)))) | with_reducible refine old_alloc ?_ _ | with_reducible refine old_trans ?_ (by with_reducible assumption)))⟩
    · have ne := nonempty (s := s) (by omega)
      clear hz
      have P := hd (iNameOk s)
      have hBB : Below w.heap.size w (w.alloc (.cells #[.int .i64 2, .int .i64 0, .string s] 104)) := old_alloc (Below.refl _ _) _
      cases hr : nameB s
      · rw [hr] at P
        rw [ac2_f hr]
        clear hr
        go_enter Try.func102, Try.ntmps102
        go_wp2_with fail
        refine (P.out _).mono ?_
        rintro e w1 ⟨rfl, hb1⟩
        have hB := old_trans hBB hb1
        have n1 := (CS.made w _ rfl #[.int .i64 2, .int .i64 0, .string s] 104).later hb1
        have m0 := n1.cell 0 _ rfl
        have m1 := n1.cell 1 _ rfl
        have m2 := n1.cell 2 _ rfl
        clear n1 hb1 hBB P
        go_wp2
        all_goals go_ret2
        all_goals exact ⟨⟨_, rfl, fun h => by first | rfl | (exact absurd h (by decide)) | omega⟩, (by repeat (first | with_reducible exact hB | with_reducible exact Below.refl _ _ | with_reducible refine Below.drew ?_ | ((with_reducible refine Below.setCell ?_ ?_ _); rotate_left; (focus (first | (simp; done) | omega | (simp; omega)))) | with_reducible refine old_alloc ?_ _ | with_reducible refine old_trans ?_ (by with_reducible assumption)))⟩
      · rw [hr] at P
        rw [ac2_t hr]
        clear hr
        go_enter Try.func102, Try.ntmps102
        go_wp2_with fail
        refine (P.out _).mono ?_
        rintro e w1 ⟨rfl, hb1⟩
        have hB := old_trans hBB hb1
        have n1 := (CS.made w _ rfl #[.int .i64 2, .int .i64 0, .string s] 104).later hb1
        have m0 := n1.cell 0 _ rfl
        have m1 := n1.cell 1 _ rfl
        have m2 := n1.cell 2 _ rfl
        clear n1 hb1 hBB P
        go_wp2
        all_goals go_ret2
        all_goals exact ⟨⟨_, rfl, fun h => by first | rfl | (exact absurd h (by decide)) | omega⟩, (by repeat (first | with_reducible exact hB | with_reducible exact Below.refl _ _ | with_reducible refine Below.drew ?_ | ((with_reducible refine Below.setCell ?_ ?_ _); rotate_left; (focus (first | (simp; done) | omega | (simp; omega)))) | with_reducible refine old_alloc ?_ _ | with_reducible refine old_trans ?_ (by with_reducible assumption)))⟩
  · rw [ac2_n h0]
    have h0' : (n == 0) = false := by simp; exact h0
    have hB := Below.refl w.heap.size w
    go_enter Try.func102, Try.ntmps102
    go_wp2
    all_goals go_ret2
    all_goals exact ⟨⟨_, rfl, fun h => by first | rfl | (exact absurd h (by decide)) | omega⟩, (by repeat (first | with_reducible exact hB | with_reducible exact Below.refl _ _ | with_reducible refine Below.drew ?_ | ((with_reducible refine Below.setCell ?_ ?_ _); rotate_left; (focus (first | (simp; done) | omega | (simp; omega)))) | with_reducible refine old_alloc ?_ _ | with_reducible refine old_trans ?_ (by with_reducible assumption)))⟩
set_option maxHeartbeats 4000000 in
theorem iPart_3 (n : Int) (s : ByteArray) (w : World) : Calls Try.prog 102 #[.agg #[.int .i64 3, .int .i64 n, .string s]] w fun e w' => (∃ c : Int, e = .returned (.tuple #[.int .i64 c, .bool (decide (0 ≤ ac ⟨3, n, s⟩))]) ∧ (0 ≤ ac ⟨3, n, s⟩ → c = ac ⟨3, n, s⟩)) ∧ Below w.heap.size w w' := by
  by_cases h0 : n = 0
  · subst h0
    by_cases hz : s.size = 0
    · obtain rfl := size_nil hz
      rw [acE_y 3 1 (by decide)]
      have hB := Below.refl w.heap.size w
      go_enter Try.func102, Try.ntmps102
      go_wp2
      all_goals go_ret2
      all_goals exact ⟨⟨_, rfl, fun h => by first | rfl | (exact absurd h (by decide)) | omega⟩, (by repeat (first | with_reducible exact hB | with_reducible exact Below.refl _ _ | with_reducible refine Below.drew ?_ | ((with_reducible refine Below.setCell ?_ ?_ _); rotate_left; (focus (first | (simp; done) | omega | (simp; omega)))) | with_reducible refine old_alloc ?_ _ | with_reducible refine old_trans ?_ (by with_reducible assumption)))⟩
    · have ne := nonempty (s := s) (by omega)
      rw [acE_s 3 1 (by decide) hz]
      have hB := Below.refl w.heap.size w
      go_enter Try.func102, Try.ntmps102
      go_wp2
      all_goals go_ret2
      all_goals exact ⟨⟨_, rfl, fun h => by first | rfl | (exact absurd h (by decide)) | omega⟩, (by repeat (first | with_reducible exact hB | with_reducible exact Below.refl _ _ | with_reducible refine Below.drew ?_ | ((with_reducible refine Below.setCell ?_ ?_ _); rotate_left; (focus (first | (simp; done) | omega | (simp; omega)))) | with_reducible refine old_alloc ?_ _ | with_reducible refine old_trans ?_ (by with_reducible assumption)))⟩
  · rw [acE_n 3 1 (by decide) h0]
    have h0' : (n == 0) = false := by simp; exact h0
    have hB := Below.refl w.heap.size w
    go_enter Try.func102, Try.ntmps102
    go_wp2
    all_goals go_ret2
    all_goals exact ⟨⟨_, rfl, fun h => by first | rfl | (exact absurd h (by decide)) | omega⟩, (by repeat (first | with_reducible exact hB | with_reducible exact Below.refl _ _ | with_reducible refine Below.drew ?_ | ((with_reducible refine Below.setCell ?_ ?_ _); rotate_left; (focus (first | (simp; done) | omega | (simp; omega)))) | with_reducible refine old_alloc ?_ _ | with_reducible refine old_trans ?_ (by with_reducible assumption)))⟩
set_option maxHeartbeats 4000000 in
theorem iPart_4 (n : Int) (s : ByteArray) (w : World) : Calls Try.prog 102 #[.agg #[.int .i64 4, .int .i64 n, .string s]] w fun e w' => (∃ c : Int, e = .returned (.tuple #[.int .i64 c, .bool (decide (0 ≤ ac ⟨4, n, s⟩))]) ∧ (0 ≤ ac ⟨4, n, s⟩ → c = ac ⟨4, n, s⟩)) ∧ Below w.heap.size w w' := by
  by_cases h0 : n = 0
  · subst h0
    by_cases hz : s.size = 0
    · obtain rfl := size_nil hz
      rw [acE_y 4 2 (by decide)]
      have hB := Below.refl w.heap.size w
      go_enter Try.func102, Try.ntmps102
      go_wp2
      all_goals go_ret2
      all_goals exact ⟨⟨_, rfl, fun h => by first | rfl | (exact absurd h (by decide)) | omega⟩, (by repeat (first | with_reducible exact hB | with_reducible exact Below.refl _ _ | with_reducible refine Below.drew ?_ | ((with_reducible refine Below.setCell ?_ ?_ _); rotate_left; (focus (first | (simp; done) | omega | (simp; omega)))) | with_reducible refine old_alloc ?_ _ | with_reducible refine old_trans ?_ (by with_reducible assumption)))⟩
    · have ne := nonempty (s := s) (by omega)
      rw [acE_s 4 2 (by decide) hz]
      have hB := Below.refl w.heap.size w
      go_enter Try.func102, Try.ntmps102
      go_wp2
      all_goals go_ret2
      all_goals exact ⟨⟨_, rfl, fun h => by first | rfl | (exact absurd h (by decide)) | omega⟩, (by repeat (first | with_reducible exact hB | with_reducible exact Below.refl _ _ | with_reducible refine Below.drew ?_ | ((with_reducible refine Below.setCell ?_ ?_ _); rotate_left; (focus (first | (simp; done) | omega | (simp; omega)))) | with_reducible refine old_alloc ?_ _ | with_reducible refine old_trans ?_ (by with_reducible assumption)))⟩
  · rw [acE_n 4 2 (by decide) h0]
    have h0' : (n == 0) = false := by simp; exact h0
    have hB := Below.refl w.heap.size w
    go_enter Try.func102, Try.ntmps102
    go_wp2
    all_goals go_ret2
    all_goals exact ⟨⟨_, rfl, fun h => by first | rfl | (exact absurd h (by decide)) | omega⟩, (by repeat (first | with_reducible exact hB | with_reducible exact Below.refl _ _ | with_reducible refine Below.drew ?_ | ((with_reducible refine Below.setCell ?_ ?_ _); rotate_left; (focus (first | (simp; done) | omega | (simp; omega)))) | with_reducible refine old_alloc ?_ _ | with_reducible refine old_trans ?_ (by with_reducible assumption)))⟩
set_option maxHeartbeats 4000000 in
theorem iPart_5 (n : Int) (s : ByteArray) (w : World) : Calls Try.prog 102 #[.agg #[.int .i64 5, .int .i64 n, .string s]] w fun e w' => (∃ c : Int, e = .returned (.tuple #[.int .i64 c, .bool (decide (0 ≤ ac ⟨5, n, s⟩))]) ∧ (0 ≤ ac ⟨5, n, s⟩ → c = ac ⟨5, n, s⟩)) ∧ Below w.heap.size w w' := by
  by_cases h0 : n = 0
  · subst h0
    by_cases hz : s.size = 0
    · obtain rfl := size_nil hz
      rw [acE_y 5 2 (by decide)]
      have hB := Below.refl w.heap.size w
      go_enter Try.func102, Try.ntmps102
      go_wp2
      all_goals go_ret2
      all_goals exact ⟨⟨_, rfl, fun h => by first | rfl | (exact absurd h (by decide)) | omega⟩, (by repeat (first | with_reducible exact hB | with_reducible exact Below.refl _ _ | with_reducible refine Below.drew ?_ | ((with_reducible refine Below.setCell ?_ ?_ _); rotate_left; (focus (first | (simp; done) | omega | (simp; omega)))) | with_reducible refine old_alloc ?_ _ | with_reducible refine old_trans ?_ (by with_reducible assumption)))⟩
    · have ne := nonempty (s := s) (by omega)
      rw [acE_s 5 2 (by decide) hz]
      have hB := Below.refl w.heap.size w
      go_enter Try.func102, Try.ntmps102
      go_wp2
      all_goals go_ret2
      all_goals exact ⟨⟨_, rfl, fun h => by first | rfl | (exact absurd h (by decide)) | omega⟩, (by repeat (first | with_reducible exact hB | with_reducible exact Below.refl _ _ | with_reducible refine Below.drew ?_ | ((with_reducible refine Below.setCell ?_ ?_ _); rotate_left; (focus (first | (simp; done) | omega | (simp; omega)))) | with_reducible refine old_alloc ?_ _ | with_reducible refine old_trans ?_ (by with_reducible assumption)))⟩
  · rw [acE_n 5 2 (by decide) h0]
    have h0' : (n == 0) = false := by simp; exact h0
    have hB := Below.refl w.heap.size w
    go_enter Try.func102, Try.ntmps102
    go_wp2
    all_goals go_ret2
    all_goals exact ⟨⟨_, rfl, fun h => by first | rfl | (exact absurd h (by decide)) | omega⟩, (by repeat (first | with_reducible exact hB | with_reducible exact Below.refl _ _ | with_reducible refine Below.drew ?_ | ((with_reducible refine Below.setCell ?_ ?_ _); rotate_left; (focus (first | (simp; done) | omega | (simp; omega)))) | with_reducible refine old_alloc ?_ _ | with_reducible refine old_trans ?_ (by with_reducible assumption)))⟩
set_option maxHeartbeats 4000000 in
theorem iPart_6 (n : Int) (s : ByteArray) (w : World) : Calls Try.prog 102 #[.agg #[.int .i64 6, .int .i64 n, .string s]] w fun e w' => (∃ c : Int, e = .returned (.tuple #[.int .i64 c, .bool (decide (0 ≤ ac ⟨6, n, s⟩))]) ∧ (0 ≤ ac ⟨6, n, s⟩ → c = ac ⟨6, n, s⟩)) ∧ Below w.heap.size w w' := by
  by_cases h0 : n = 0
  · subst h0
    by_cases hz : s.size = 0
    · obtain rfl := size_nil hz
      rw [acE_y 6 2 (by decide)]
      have hB := Below.refl w.heap.size w
      go_enter Try.func102, Try.ntmps102
      go_wp2
      all_goals go_ret2
      all_goals exact ⟨⟨_, rfl, fun h => by first | rfl | (exact absurd h (by decide)) | omega⟩, (by repeat (first | with_reducible exact hB | with_reducible exact Below.refl _ _ | with_reducible refine Below.drew ?_ | ((with_reducible refine Below.setCell ?_ ?_ _); rotate_left; (focus (first | (simp; done) | omega | (simp; omega)))) | with_reducible refine old_alloc ?_ _ | with_reducible refine old_trans ?_ (by with_reducible assumption)))⟩
    · have ne := nonempty (s := s) (by omega)
      rw [acE_s 6 2 (by decide) hz]
      have hB := Below.refl w.heap.size w
      go_enter Try.func102, Try.ntmps102
      go_wp2
      all_goals go_ret2
      all_goals exact ⟨⟨_, rfl, fun h => by first | rfl | (exact absurd h (by decide)) | omega⟩, (by repeat (first | with_reducible exact hB | with_reducible exact Below.refl _ _ | with_reducible refine Below.drew ?_ | ((with_reducible refine Below.setCell ?_ ?_ _); rotate_left; (focus (first | (simp; done) | omega | (simp; omega)))) | with_reducible refine old_alloc ?_ _ | with_reducible refine old_trans ?_ (by with_reducible assumption)))⟩
  · rw [acE_n 6 2 (by decide) h0]
    have h0' : (n == 0) = false := by simp; exact h0
    have hB := Below.refl w.heap.size w
    go_enter Try.func102, Try.ntmps102
    go_wp2
    all_goals go_ret2
    all_goals exact ⟨⟨_, rfl, fun h => by first | rfl | (exact absurd h (by decide)) | omega⟩, (by repeat (first | with_reducible exact hB | with_reducible exact Below.refl _ _ | with_reducible refine Below.drew ?_ | ((with_reducible refine Below.setCell ?_ ?_ _); rotate_left; (focus (first | (simp; done) | omega | (simp; omega)))) | with_reducible refine old_alloc ?_ _ | with_reducible refine old_trans ?_ (by with_reducible assumption)))⟩
set_option maxHeartbeats 4000000 in
theorem iPart_7 (n : Int) (s : ByteArray) (w : World) : Calls Try.prog 102 #[.agg #[.int .i64 7, .int .i64 n, .string s]] w fun e w' => (∃ c : Int, e = .returned (.tuple #[.int .i64 c, .bool (decide (0 ≤ ac ⟨7, n, s⟩))]) ∧ (0 ≤ ac ⟨7, n, s⟩ → c = ac ⟨7, n, s⟩)) ∧ Below w.heap.size w w' := by
  by_cases h0 : n = 0
  · subst h0
    by_cases hz : s.size = 0
    · obtain rfl := size_nil hz
      rw [acE_y 7 2 (by decide)]
      have hB := Below.refl w.heap.size w
      go_enter Try.func102, Try.ntmps102
      go_wp2
      all_goals go_ret2
      all_goals exact ⟨⟨_, rfl, fun h => by first | rfl | (exact absurd h (by decide)) | omega⟩, (by repeat (first | with_reducible exact hB | with_reducible exact Below.refl _ _ | with_reducible refine Below.drew ?_ | ((with_reducible refine Below.setCell ?_ ?_ _); rotate_left; (focus (first | (simp; done) | omega | (simp; omega)))) | with_reducible refine old_alloc ?_ _ | with_reducible refine old_trans ?_ (by with_reducible assumption)))⟩
    · have ne := nonempty (s := s) (by omega)
      rw [acE_s 7 2 (by decide) hz]
      have hB := Below.refl w.heap.size w
      go_enter Try.func102, Try.ntmps102
      go_wp2
      all_goals go_ret2
      all_goals exact ⟨⟨_, rfl, fun h => by first | rfl | (exact absurd h (by decide)) | omega⟩, (by repeat (first | with_reducible exact hB | with_reducible exact Below.refl _ _ | with_reducible refine Below.drew ?_ | ((with_reducible refine Below.setCell ?_ ?_ _); rotate_left; (focus (first | (simp; done) | omega | (simp; omega)))) | with_reducible refine old_alloc ?_ _ | with_reducible refine old_trans ?_ (by with_reducible assumption)))⟩
  · rw [acE_n 7 2 (by decide) h0]
    have h0' : (n == 0) = false := by simp; exact h0
    have hB := Below.refl w.heap.size w
    go_enter Try.func102, Try.ntmps102
    go_wp2
    all_goals go_ret2
    all_goals exact ⟨⟨_, rfl, fun h => by first | rfl | (exact absurd h (by decide)) | omega⟩, (by repeat (first | with_reducible exact hB | with_reducible exact Below.refl _ _ | with_reducible refine Below.drew ?_ | ((with_reducible refine Below.setCell ?_ ?_ _); rotate_left; (focus (first | (simp; done) | omega | (simp; omega)))) | with_reducible refine old_alloc ?_ _ | with_reducible refine old_trans ?_ (by with_reducible assumption)))⟩
set_option maxHeartbeats 4000000 in
theorem iPart_8 (n : Int) (s : ByteArray) (w : World) : Calls Try.prog 102 #[.agg #[.int .i64 8, .int .i64 n, .string s]] w fun e w' => (∃ c : Int, e = .returned (.tuple #[.int .i64 c, .bool (decide (0 ≤ ac ⟨8, n, s⟩))]) ∧ (0 ≤ ac ⟨8, n, s⟩ → c = ac ⟨8, n, s⟩)) ∧ Below w.heap.size w w' := by
  by_cases nz : n = 0
  · subst nz
    by_cases hz : s.size = 0
    · obtain rfl := size_nil hz
      rw [ac8_y (by decide) (by decide)]
      have hB := Below.refl w.heap.size w
      go_enter Try.func102, Try.ntmps102
      go_wp2_with fail
      go_quiet (fail)
      go_wp2
      go_ret2
      exact ⟨⟨_, rfl, fun h => by first | rfl | (exact absurd h (by decide)) | omega⟩, below_drewN (old_alloc (Below.refl _ _) _) _⟩
    · have ne := nonempty (s := s) (by omega)
      rw [ac8_n (by omega)]
      have hB := Below.refl w.heap.size w
      go_enter Try.func102, Try.ntmps102
      go_wp2_with fail
      go_quiet (fail)
      go_wp2
      go_ret2
      exact ⟨⟨_, rfl, fun h => by first | rfl | (exact absurd h (by decide)) | omega⟩, below_drewN (old_alloc (Below.refl _ _) _) _⟩
  have n0 : (n == 0) = false := by simp; exact nz
  by_cases h0 : 0 ≤ n
  · have g0 : decide (0 ≤ n) = true := decide_eq_true h0
    by_cases h8 : n ≤ 8
    · have g8 : decide (n ≤ 8) = true := decide_eq_true h8
      by_cases hz : s.size = 0
      · obtain rfl := size_nil hz
        rw [ac8_y h0 h8]
        have hB := Below.refl w.heap.size w
        go_enter Try.func102, Try.ntmps102
        go_wp2_with fail
        go_quiet (fail)
        go_wp2
        go_ret2
        exact ⟨⟨_, rfl, fun h => by first | rfl | (exact absurd h (by decide)) | omega⟩, below_drewN (old_alloc (Below.refl _ _) _) _⟩
      · have ne := nonempty (s := s) (by omega)
        rw [ac8_n (by omega)]
        have hB := Below.refl w.heap.size w
        go_enter Try.func102, Try.ntmps102
        go_wp2_with fail
        go_quiet (fail)
        go_wp2
        go_ret2
        exact ⟨⟨_, rfl, fun h => by first | rfl | (exact absurd h (by decide)) | omega⟩, below_drewN (old_alloc (Below.refl _ _) _) _⟩
    · have g8 : decide (n ≤ 8) = false := decide_eq_false h8
      rw [ac8_n (by omega)]
      have hB := Below.refl w.heap.size w
      go_enter Try.func102, Try.ntmps102
      go_wp2_with fail
      go_quiet (fail)
      go_wp2
      go_ret2
      exact ⟨⟨_, rfl, fun h => by first | rfl | (exact absurd h (by decide)) | omega⟩, below_drewN (old_alloc (Below.refl _ _) _) _⟩
  · have g0 : decide (0 ≤ n) = false := decide_eq_false h0
    rw [ac8_n (by omega)]
    have hB := Below.refl w.heap.size w
    go_enter Try.func102, Try.ntmps102
    go_wp2_with fail
    go_quiet (fail)
    go_wp2
    go_ret2
    exact ⟨⟨_, rfl, fun h => by first | rfl | (exact absurd h (by decide)) | omega⟩, below_drewN (old_alloc (Below.refl _ _) _) _⟩
set_option maxHeartbeats 4000000 in
theorem iPart_9 (n : Int) (s : ByteArray) (w : World) : Calls Try.prog 102 #[.agg #[.int .i64 9, .int .i64 n, .string s]] w fun e w' => (∃ c : Int, e = .returned (.tuple #[.int .i64 c, .bool (decide (0 ≤ ac ⟨9, n, s⟩))]) ∧ (0 ≤ ac ⟨9, n, s⟩ → c = ac ⟨9, n, s⟩)) ∧ Below w.heap.size w w' := by
  by_cases h0 : n = 0
  · subst h0
    by_cases hz : s.size = 0
    · obtain rfl := size_nil hz
      rw [acE_y 9 1 (by decide)]
      have hB := Below.refl w.heap.size w
      go_enter Try.func102, Try.ntmps102
      go_wp2
      all_goals go_ret2
      all_goals exact ⟨⟨_, rfl, fun h => by first | rfl | (exact absurd h (by decide)) | omega⟩, (by repeat (first | with_reducible exact hB | with_reducible exact Below.refl _ _ | with_reducible refine Below.drew ?_ | ((with_reducible refine Below.setCell ?_ ?_ _); rotate_left; (focus (first | (simp; done) | omega | (simp; omega)))) | with_reducible refine old_alloc ?_ _ | with_reducible refine old_trans ?_ (by with_reducible assumption)))⟩
    · have ne := nonempty (s := s) (by omega)
      rw [acE_s 9 1 (by decide) hz]
      have hB := Below.refl w.heap.size w
      go_enter Try.func102, Try.ntmps102
      go_wp2
      all_goals go_ret2
      all_goals exact ⟨⟨_, rfl, fun h => by first | rfl | (exact absurd h (by decide)) | omega⟩, (by repeat (first | with_reducible exact hB | with_reducible exact Below.refl _ _ | with_reducible refine Below.drew ?_ | ((with_reducible refine Below.setCell ?_ ?_ _); rotate_left; (focus (first | (simp; done) | omega | (simp; omega)))) | with_reducible refine old_alloc ?_ _ | with_reducible refine old_trans ?_ (by with_reducible assumption)))⟩
  · rw [acE_n 9 1 (by decide) h0]
    have h0' : (n == 0) = false := by simp; exact h0
    have hB := Below.refl w.heap.size w
    go_enter Try.func102, Try.ntmps102
    go_wp2
    all_goals go_ret2
    all_goals exact ⟨⟨_, rfl, fun h => by first | rfl | (exact absurd h (by decide)) | omega⟩, (by repeat (first | with_reducible exact hB | with_reducible exact Below.refl _ _ | with_reducible refine Below.drew ?_ | ((with_reducible refine Below.setCell ?_ ?_ _); rotate_left; (focus (first | (simp; done) | omega | (simp; omega)))) | with_reducible refine old_alloc ?_ _ | with_reducible refine old_trans ?_ (by with_reducible assumption)))⟩
set_option maxHeartbeats 4000000 in
theorem iPart_10 (n : Int) (s : ByteArray) (w : World) : Calls Try.prog 102 #[.agg #[.int .i64 10, .int .i64 n, .string s]] w fun e w' => (∃ c : Int, e = .returned (.tuple #[.int .i64 c, .bool (decide (0 ≤ ac ⟨10, n, s⟩))]) ∧ (0 ≤ ac ⟨10, n, s⟩ → c = ac ⟨10, n, s⟩)) ∧ Below w.heap.size w w' := by
  by_cases h0 : n = 0
  · subst h0
    by_cases hz : s.size = 0
    · obtain rfl := size_nil hz
      rw [acE_y 10 1 (by decide)]
      have hB := Below.refl w.heap.size w
      go_enter Try.func102, Try.ntmps102
      go_wp2
      all_goals go_ret2
      all_goals exact ⟨⟨_, rfl, fun h => by first | rfl | (exact absurd h (by decide)) | omega⟩, (by repeat (first | with_reducible exact hB | with_reducible exact Below.refl _ _ | with_reducible refine Below.drew ?_ | ((with_reducible refine Below.setCell ?_ ?_ _); rotate_left; (focus (first | (simp; done) | omega | (simp; omega)))) | with_reducible refine old_alloc ?_ _ | with_reducible refine old_trans ?_ (by with_reducible assumption)))⟩
    · have ne := nonempty (s := s) (by omega)
      rw [acE_s 10 1 (by decide) hz]
      have hB := Below.refl w.heap.size w
      go_enter Try.func102, Try.ntmps102
      go_wp2
      all_goals go_ret2
      all_goals exact ⟨⟨_, rfl, fun h => by first | rfl | (exact absurd h (by decide)) | omega⟩, (by repeat (first | with_reducible exact hB | with_reducible exact Below.refl _ _ | with_reducible refine Below.drew ?_ | ((with_reducible refine Below.setCell ?_ ?_ _); rotate_left; (focus (first | (simp; done) | omega | (simp; omega)))) | with_reducible refine old_alloc ?_ _ | with_reducible refine old_trans ?_ (by with_reducible assumption)))⟩
  · rw [acE_n 10 1 (by decide) h0]
    have h0' : (n == 0) = false := by simp; exact h0
    have hB := Below.refl w.heap.size w
    go_enter Try.func102, Try.ntmps102
    go_wp2
    all_goals go_ret2
    all_goals exact ⟨⟨_, rfl, fun h => by first | rfl | (exact absurd h (by decide)) | omega⟩, (by repeat (first | with_reducible exact hB | with_reducible exact Below.refl _ _ | with_reducible refine Below.drew ?_ | ((with_reducible refine Below.setCell ?_ ?_ _); rotate_left; (focus (first | (simp; done) | omega | (simp; omega)))) | with_reducible refine old_alloc ?_ _ | with_reducible refine old_trans ?_ (by with_reducible assumption)))⟩
set_option maxHeartbeats 4000000 in
theorem iPart_11 (n : Int) (s : ByteArray) (w : World) : Calls Try.prog 102 #[.agg #[.int .i64 11, .int .i64 n, .string s]] w fun e w' => (∃ c : Int, e = .returned (.tuple #[.int .i64 c, .bool (decide (0 ≤ ac ⟨11, n, s⟩))]) ∧ (0 ≤ ac ⟨11, n, s⟩ → c = ac ⟨11, n, s⟩)) ∧ Below w.heap.size w w' := by
  by_cases h0 : n = 0
  · subst h0
    by_cases hz : s.size = 0
    · obtain rfl := size_nil hz
      rw [acE_y 11 2 (by decide)]
      have hB := Below.refl w.heap.size w
      go_enter Try.func102, Try.ntmps102
      go_wp2
      all_goals go_ret2
      all_goals exact ⟨⟨_, rfl, fun h => by first | rfl | (exact absurd h (by decide)) | omega⟩, (by repeat (first | with_reducible exact hB | with_reducible exact Below.refl _ _ | with_reducible refine Below.drew ?_ | ((with_reducible refine Below.setCell ?_ ?_ _); rotate_left; (focus (first | (simp; done) | omega | (simp; omega)))) | with_reducible refine old_alloc ?_ _ | with_reducible refine old_trans ?_ (by with_reducible assumption)))⟩
    · have ne := nonempty (s := s) (by omega)
      rw [acE_s 11 2 (by decide) hz]
      have hB := Below.refl w.heap.size w
      go_enter Try.func102, Try.ntmps102
      go_wp2
      all_goals go_ret2
      all_goals exact ⟨⟨_, rfl, fun h => by first | rfl | (exact absurd h (by decide)) | omega⟩, (by repeat (first | with_reducible exact hB | with_reducible exact Below.refl _ _ | with_reducible refine Below.drew ?_ | ((with_reducible refine Below.setCell ?_ ?_ _); rotate_left; (focus (first | (simp; done) | omega | (simp; omega)))) | with_reducible refine old_alloc ?_ _ | with_reducible refine old_trans ?_ (by with_reducible assumption)))⟩
  · rw [acE_n 11 2 (by decide) h0]
    have h0' : (n == 0) = false := by simp; exact h0
    have hB := Below.refl w.heap.size w
    go_enter Try.func102, Try.ntmps102
    go_wp2
    all_goals go_ret2
    all_goals exact ⟨⟨_, rfl, fun h => by first | rfl | (exact absurd h (by decide)) | omega⟩, (by repeat (first | with_reducible exact hB | with_reducible exact Below.refl _ _ | with_reducible refine Below.drew ?_ | ((with_reducible refine Below.setCell ?_ ?_ _); rotate_left; (focus (first | (simp; done) | omega | (simp; omega)))) | with_reducible refine old_alloc ?_ _ | with_reducible refine old_trans ?_ (by with_reducible assumption)))⟩
set_option maxHeartbeats 4000000 in
theorem iPart_12 (n : Int) (s : ByteArray) (w : World) : Calls Try.prog 102 #[.agg #[.int .i64 12, .int .i64 n, .string s]] w fun e w' => (∃ c : Int, e = .returned (.tuple #[.int .i64 c, .bool (decide (0 ≤ ac ⟨12, n, s⟩))]) ∧ (0 ≤ ac ⟨12, n, s⟩ → c = ac ⟨12, n, s⟩)) ∧ Below w.heap.size w w' := by
  by_cases h0 : n = 0
  · subst h0
    by_cases hz : s.size = 0
    · obtain rfl := size_nil hz
      rw [acE_y 12 2 (by decide)]
      have hB := Below.refl w.heap.size w
      go_enter Try.func102, Try.ntmps102
      go_wp2
      all_goals go_ret2
      all_goals exact ⟨⟨_, rfl, fun h => by first | rfl | (exact absurd h (by decide)) | omega⟩, (by repeat (first | with_reducible exact hB | with_reducible exact Below.refl _ _ | with_reducible refine Below.drew ?_ | ((with_reducible refine Below.setCell ?_ ?_ _); rotate_left; (focus (first | (simp; done) | omega | (simp; omega)))) | with_reducible refine old_alloc ?_ _ | with_reducible refine old_trans ?_ (by with_reducible assumption)))⟩
    · have ne := nonempty (s := s) (by omega)
      rw [acE_s 12 2 (by decide) hz]
      have hB := Below.refl w.heap.size w
      go_enter Try.func102, Try.ntmps102
      go_wp2
      all_goals go_ret2
      all_goals exact ⟨⟨_, rfl, fun h => by first | rfl | (exact absurd h (by decide)) | omega⟩, (by repeat (first | with_reducible exact hB | with_reducible exact Below.refl _ _ | with_reducible refine Below.drew ?_ | ((with_reducible refine Below.setCell ?_ ?_ _); rotate_left; (focus (first | (simp; done) | omega | (simp; omega)))) | with_reducible refine old_alloc ?_ _ | with_reducible refine old_trans ?_ (by with_reducible assumption)))⟩
  · rw [acE_n 12 2 (by decide) h0]
    have h0' : (n == 0) = false := by simp; exact h0
    have hB := Below.refl w.heap.size w
    go_enter Try.func102, Try.ntmps102
    go_wp2
    all_goals go_ret2
    all_goals exact ⟨⟨_, rfl, fun h => by first | rfl | (exact absurd h (by decide)) | omega⟩, (by repeat (first | with_reducible exact hB | with_reducible exact Below.refl _ _ | with_reducible refine Below.drew ?_ | ((with_reducible refine Below.setCell ?_ ?_ _); rotate_left; (focus (first | (simp; done) | omega | (simp; omega)))) | with_reducible refine old_alloc ?_ _ | with_reducible refine old_trans ?_ (by with_reducible assumption)))⟩
set_option maxHeartbeats 4000000 in
theorem iPart_13 (n : Int) (s : ByteArray) (w : World) : Calls Try.prog 102 #[.agg #[.int .i64 13, .int .i64 n, .string s]] w fun e w' => (∃ c : Int, e = .returned (.tuple #[.int .i64 c, .bool (decide (0 ≤ ac ⟨13, n, s⟩))]) ∧ (0 ≤ ac ⟨13, n, s⟩ → c = ac ⟨13, n, s⟩)) ∧ Below w.heap.size w w' := by
  by_cases h0 : 1 ≤ n
  · have g0 : decide (1 ≤ n) = true := decide_eq_true h0
    have n0 : (n == 0) = false := by simp; omega
    by_cases h8 : n ≤ 6
    · have g8 : decide (n ≤ 6) = true := decide_eq_true h8
      have c1 := ac13_f (n := n) (s := s)
      have c2 := fun h => ac13_t (n := n) (s := s) h0 h8 h
      have P := hd (iNameOk s)
      have U := hd (fun w' (hS : w'.cell? ⟨w.heap.size, 0, none⟩ = some (.int .i64 13) ∧ w'.cell? ⟨w.heap.size, 1, none⟩ = some (.int .i64 n) ∧ w'.cell? ⟨w.heap.size, 2, none⟩ = some (.string s)) => (P.out w').mono (fun e w'' (q : _ ∧ _) => (⟨q, three_oldN hS q.2⟩ : (_ ∧ _) ∧ (w''.cell? ⟨w.heap.size, 0, none⟩ = some (.int .i64 13) ∧ w''.cell? ⟨w.heap.size, 1, none⟩ = some (.int .i64 n) ∧ w''.cell? ⟨w.heap.size, 2, none⟩ = some (.string s)))))
      have N0 := CS.made w _ rfl #[.int .i64 13, .int .i64 n, .string s] 104
      have hBB : Below w.heap.size w (w.alloc (.cells #[.int .i64 13, .int .i64 n, .string s] 104)) := old_alloc (Below.refl _ _) _
      have m0 := N0.cell 0 _ rfl
      have m1 := N0.cell 1 _ rfl
      have m2 := N0.cell 2 _ rfl
      cases hr : nameB s
      · rw [hr] at U
        rw [c1 hr]
        clear hr c1 c2 P
        go_enter Try.func102, Try.ntmps102
        go_wp2_with fail
        go_region_held3 (fun w' => w'.cell? ⟨w.heap.size, 0, none⟩ = some (.int .i64 13) ∧ w'.cell? ⟨w.heap.size, 1, none⟩ = some (.int .i64 n) ∧ w'.cell? ⟨w.heap.size, 2, none⟩ = some (.string s)) (go_keep) (first | (go_at_call 113; with_reducible refine (U.out _ (by assumption)).mono ?_; rintro e w1 ⟨⟨rfl, hb1⟩, hc1⟩))
        all_goals
          have hB : Below w.heap.size w w1 := old_trans hBB.drew hb1
          go_wp2
          go_ret2
          exact ⟨⟨_, by first | rfl | (rw [decide_eq_true (by omega : (0 : Int) ≤ n)]; rfl), fun h => by first | rfl | (exact absurd h (by decide)) | omega⟩, (by repeat (first | with_reducible exact hB | with_reducible exact Below.refl _ _ | with_reducible refine Below.drew ?_ | ((with_reducible refine Below.setCell ?_ ?_ _); rotate_left; (focus (first | (simp; done) | omega | (simp; omega)))) | with_reducible refine old_alloc ?_ _ | with_reducible refine old_trans ?_ (by with_reducible assumption)))⟩
      · rw [hr] at U
        rw [c2 hr]
        clear hr c1 c2 P
        go_enter Try.func102, Try.ntmps102
        go_wp2_with fail
        go_region_held3 (fun w' => w'.cell? ⟨w.heap.size, 0, none⟩ = some (.int .i64 13) ∧ w'.cell? ⟨w.heap.size, 1, none⟩ = some (.int .i64 n) ∧ w'.cell? ⟨w.heap.size, 2, none⟩ = some (.string s)) (go_keep) (first | (go_at_call 113; with_reducible refine (U.out _ (by assumption)).mono ?_; rintro e w1 ⟨⟨rfl, hb1⟩, hc1⟩))
        all_goals
          have hB : Below w.heap.size w w1 := old_trans hBB.drew hb1
          go_wp2
          go_ret2
          exact ⟨⟨_, by first | rfl | (rw [decide_eq_true (by omega : (0 : Int) ≤ n)]; rfl), fun h => by first | rfl | (exact absurd h (by decide)) | omega⟩, (by repeat (first | with_reducible exact hB | with_reducible exact Below.refl _ _ | with_reducible refine Below.drew ?_ | ((with_reducible refine Below.setCell ?_ ?_ _); rotate_left; (focus (first | (simp; done) | omega | (simp; omega)))) | with_reducible refine old_alloc ?_ _ | with_reducible refine old_trans ?_ (by with_reducible assumption)))⟩
    · have g8 : decide (n ≤ 6) = false := decide_eq_false h8
      rw [ac13_n (by omega)]
      have hB := Below.refl w.heap.size w
      go_enter Try.func102, Try.ntmps102
      go_wp2_with fail
      go_quiet (fail)
      go_wp2
      go_ret2
      exact ⟨⟨_, rfl, fun h => by first | rfl | (exact absurd h (by decide)) | omega⟩, below_drewN (old_alloc (Below.refl _ _) _) _⟩
  · have g0 : decide (1 ≤ n) = false := decide_eq_false h0
    rw [ac13_n (by omega)]
    by_cases nz : n = 0
    · subst nz
      by_cases hz : s.size = 0
      · obtain rfl := size_nil hz
        have hB := Below.refl w.heap.size w
        go_enter Try.func102, Try.ntmps102
        go_wp2_with fail
        go_quiet (fail)
        go_wp2
        go_ret2
        exact ⟨⟨_, rfl, fun h => by first | rfl | (exact absurd h (by decide)) | omega⟩, below_drewN (old_alloc (Below.refl _ _) _) _⟩
      · have ne := nonempty (s := s) (by omega)
        have hB := Below.refl w.heap.size w
        go_enter Try.func102, Try.ntmps102
        go_wp2_with fail
        go_quiet (fail)
        go_wp2
        go_ret2
        exact ⟨⟨_, rfl, fun h => by first | rfl | (exact absurd h (by decide)) | omega⟩, below_drewN (old_alloc (Below.refl _ _) _) _⟩
    · have n0 : (n == 0) = false := by simp; exact nz
      have hB := Below.refl w.heap.size w
      go_enter Try.func102, Try.ntmps102
      go_wp2_with fail
      go_quiet (fail)
      go_wp2
      go_ret2
      exact ⟨⟨_, rfl, fun h => by first | rfl | (exact absurd h (by decide)) | omega⟩, below_drewN (old_alloc (Below.refl _ _) _) _⟩
set_option maxHeartbeats 4000000 in
theorem iPart_o (k : Int) (hk : k < 1 ∨ 13 < k) (n : Int) (s : ByteArray) (w : World) : Calls Try.prog 102 #[.agg #[.int .i64 k, .int .i64 n, .string s]] w fun e w' => (∃ c : Int, e = .returned (.tuple #[.int .i64 c, .bool (decide (0 ≤ ac ⟨k, n, s⟩))]) ∧ (0 ≤ ac ⟨k, n, s⟩ → c = ac ⟨k, n, s⟩)) ∧ Below w.heap.size w w' := by
  have hB := Below.refl w.heap.size w
  have q1 : (k == 1) = false := by simp; omega
  have q2 : (k == 2) = false := by simp; omega
  have q3 : (k == 3) = false := by simp; omega
  have q4 : (k == 4) = false := by simp; omega
  have q5 : (k == 5) = false := by simp; omega
  have q6 : (k == 6) = false := by simp; omega
  have q7 : (k == 7) = false := by simp; omega
  have q8 : (k == 8) = false := by simp; omega
  have q9 : (k == 9) = false := by simp; omega
  have q10 : (k == 10) = false := by simp; omega
  have q11 : (k == 11) = false := by simp; omega
  have q12 : (k == 12) = false := by simp; omega
  have q13 : (k == 13) = false := by simp; omega
  rw [acO hk]
  clear hk
  by_cases nz : n = 0
  · subst nz
    by_cases hz : s.size = 0
    · obtain rfl := size_nil hz
      go_enter Try.func102, Try.ntmps102
      go_wp2
      all_goals go_ret2
      all_goals exact ⟨⟨_, rfl, fun h => by first | rfl | (exact absurd h (by decide)) | omega⟩, (by repeat (first | with_reducible exact hB | with_reducible exact Below.refl _ _ | with_reducible refine Below.drew ?_ | ((with_reducible refine Below.setCell ?_ ?_ _); rotate_left; (focus (first | (simp; done) | omega | (simp; omega)))) | with_reducible refine old_alloc ?_ _ | with_reducible refine old_trans ?_ (by with_reducible assumption)))⟩
    · have ne := nonempty (s := s) (by omega)
      go_enter Try.func102, Try.ntmps102
      go_wp2
      all_goals go_ret2
      all_goals exact ⟨⟨_, rfl, fun h => by first | rfl | (exact absurd h (by decide)) | omega⟩, (by repeat (first | with_reducible exact hB | with_reducible exact Below.refl _ _ | with_reducible refine Below.drew ?_ | ((with_reducible refine Below.setCell ?_ ?_ _); rotate_left; (focus (first | (simp; done) | omega | (simp; omega)))) | with_reducible refine old_alloc ?_ _ | with_reducible refine old_trans ?_ (by with_reducible assumption)))⟩
  · have n0 : (n == 0) = false := by simp; exact nz
    go_enter Try.func102, Try.ntmps102
    go_wp2
    all_goals go_ret2
    all_goals exact ⟨⟨_, rfl, fun h => by first | rfl | (exact absurd h (by decide)) | omega⟩, (by repeat (first | with_reducible exact hB | with_reducible exact Below.refl _ _ | with_reducible refine Below.drew ?_ | ((with_reducible refine Below.setCell ?_ ?_ _); rotate_left; (focus (first | (simp; done) | omega | (simp; omega)))) | with_reducible refine old_alloc ?_ _ | with_reducible refine old_trans ?_ (by with_reducible assumption)))⟩
theorem iPart (k n : Int) (s : ByteArray) (w : World) : Calls Try.prog 102 #[.agg #[.int .i64 k, .int .i64 n, .string s]] w fun e w' => (∃ c : Int, e = .returned (.tuple #[.int .i64 c, .bool (decide (0 ≤ ac ⟨k, n, s⟩))]) ∧ (0 ≤ ac ⟨k, n, s⟩ → c = ac ⟨k, n, s⟩)) ∧ Below w.heap.size w w' := by
  rcases k_cases k with rfl | rfl | rfl | rfl | rfl | rfl | rfl | rfl | rfl | rfl | rfl | rfl | rfl | h
  · exact iPart_1 n s w
  · exact iPart_2 n s w
  · exact iPart_3 n s w
  · exact iPart_4 n s w
  · exact iPart_5 n s w
  · exact iPart_6 n s w
  · exact iPart_7 n s w
  · exact iPart_8 n s w
  · exact iPart_9 n s w
  · exact iPart_10 n s w
  · exact iPart_11 n s w
  · exact iPart_12 n s w
  · exact iPart_13 n s w
  · exact iPart_o k h n s w
set_option maxHeartbeats 4000000 in
theorem sArgs_1 (n : Int) (s : ByteArray) (hs : s.size ≤ maxLen) (w : World) : Calls Try.prog 100 #[.agg #[.int .i64 1, .int .i64 n, .string s]] w fun e w' => e = .returned (.int .i64 (ac ⟨1, n, s⟩)) ∧ Below w.heap.size w w' := by
  by_cases h0 : n = 0
  · subst h0
    have P := hd (sNumOkB s hs)
    have hBB : Below w.heap.size w (w.alloc (.cells #[.int .i64 1, .int .i64 0, .string s] 104)) := old_alloc (Below.refl _ _) _
    cases hr : decS s
    · rw [hr] at P
      rw [ac1_f hr]
      clear hr
      go_enter Try.func100, Try.ntmps100
      go_wp2_with fail
      refine (P.out _).mono ?_
      rintro e w1 ⟨rfl, hb1⟩
      have hB := old_trans hBB hb1
      have n1 := (CS.made w _ rfl #[.int .i64 1, .int .i64 0, .string s] 104).later hb1
      have m0 := n1.cell 0 _ rfl
      have m1 := n1.cell 1 _ rfl
      have m2 := n1.cell 2 _ rfl
      clear n1 hb1 hBB P
      go_wp2
      go_ret
      exact ⟨rfl, (by repeat (first | with_reducible exact hB | with_reducible exact Below.refl _ _ | with_reducible refine Below.drew ?_ | ((with_reducible refine Below.setCell ?_ ?_ _); rotate_left; (focus (first | (simp; done) | omega | (simp; omega)))) | with_reducible refine old_alloc ?_ _ | with_reducible refine old_trans ?_ (by with_reducible assumption)))⟩
    · rw [hr] at P
      rw [ac1_t hr]
      clear hr
      go_enter Try.func100, Try.ntmps100
      go_wp2_with fail
      refine (P.out _).mono ?_
      rintro e w1 ⟨rfl, hb1⟩
      have hB := old_trans hBB hb1
      have n1 := (CS.made w _ rfl #[.int .i64 1, .int .i64 0, .string s] 104).later hb1
      have m0 := n1.cell 0 _ rfl
      have m1 := n1.cell 1 _ rfl
      have m2 := n1.cell 2 _ rfl
      clear n1 hb1 hBB P
      go_wp2
      go_ret
      exact ⟨rfl, (by repeat (first | with_reducible exact hB | with_reducible exact Below.refl _ _ | with_reducible refine Below.drew ?_ | ((with_reducible refine Below.setCell ?_ ?_ _); rotate_left; (focus (first | (simp; done) | omega | (simp; omega)))) | with_reducible refine old_alloc ?_ _ | with_reducible refine old_trans ?_ (by with_reducible assumption)))⟩
  · rw [ac1_n h0]
    have h0' : (n == 0) = false := by simp; exact h0
    have hB := Below.refl w.heap.size w
    go_enter Try.func100, Try.ntmps100
    go_wp2
    go_ret
    exact ⟨rfl, (by repeat (first | with_reducible exact hB | with_reducible exact Below.refl _ _ | with_reducible refine Below.drew ?_ | ((with_reducible refine Below.setCell ?_ ?_ _); rotate_left; (focus (first | (simp; done) | omega | (simp; omega)))) | with_reducible refine old_alloc ?_ _ | with_reducible refine old_trans ?_ (by with_reducible assumption)))⟩
set_option maxHeartbeats 4000000 in
theorem sArgs_2 (n : Int) (s : ByteArray) (hs : s.size ≤ maxLen) (w : World) : Calls Try.prog 100 #[.agg #[.int .i64 2, .int .i64 n, .string s]] w fun e w' => e = .returned (.int .i64 (ac ⟨2, n, s⟩)) ∧ Below w.heap.size w w' := by
  by_cases h0 : n = 0
  · subst h0
    have P := hd (sNameOkB s)
    have hBB : Below w.heap.size w (w.alloc (.cells #[.int .i64 2, .int .i64 0, .string s] 104)) := old_alloc (Below.refl _ _) _
    cases hr : nameB s
    · rw [hr] at P
      rw [ac2_f hr]
      clear hr
      go_enter Try.func100, Try.ntmps100
      go_wp2_with fail
      refine (P.out _).mono ?_
      rintro e w1 ⟨rfl, hb1⟩
      have hB := old_trans hBB hb1
      have n1 := (CS.made w _ rfl #[.int .i64 2, .int .i64 0, .string s] 104).later hb1
      have m0 := n1.cell 0 _ rfl
      have m1 := n1.cell 1 _ rfl
      have m2 := n1.cell 2 _ rfl
      clear n1 hb1 hBB P
      go_wp2
      go_ret
      exact ⟨rfl, (by repeat (first | with_reducible exact hB | with_reducible exact Below.refl _ _ | with_reducible refine Below.drew ?_ | ((with_reducible refine Below.setCell ?_ ?_ _); rotate_left; (focus (first | (simp; done) | omega | (simp; omega)))) | with_reducible refine old_alloc ?_ _ | with_reducible refine old_trans ?_ (by with_reducible assumption)))⟩
    · rw [hr] at P
      rw [ac2_t hr]
      clear hr
      go_enter Try.func100, Try.ntmps100
      go_wp2_with fail
      refine (P.out _).mono ?_
      rintro e w1 ⟨rfl, hb1⟩
      have hB := old_trans hBB hb1
      have n1 := (CS.made w _ rfl #[.int .i64 2, .int .i64 0, .string s] 104).later hb1
      have m0 := n1.cell 0 _ rfl
      have m1 := n1.cell 1 _ rfl
      have m2 := n1.cell 2 _ rfl
      clear n1 hb1 hBB P
      go_wp2
      go_ret
      exact ⟨rfl, (by repeat (first | with_reducible exact hB | with_reducible exact Below.refl _ _ | with_reducible refine Below.drew ?_ | ((with_reducible refine Below.setCell ?_ ?_ _); rotate_left; (focus (first | (simp; done) | omega | (simp; omega)))) | with_reducible refine old_alloc ?_ _ | with_reducible refine old_trans ?_ (by with_reducible assumption)))⟩
  · rw [ac2_n h0]
    have h0' : (n == 0) = false := by simp; exact h0
    have hB := Below.refl w.heap.size w
    go_enter Try.func100, Try.ntmps100
    go_wp2
    go_ret
    exact ⟨rfl, (by repeat (first | with_reducible exact hB | with_reducible exact Below.refl _ _ | with_reducible refine Below.drew ?_ | ((with_reducible refine Below.setCell ?_ ?_ _); rotate_left; (focus (first | (simp; done) | omega | (simp; omega)))) | with_reducible refine old_alloc ?_ _ | with_reducible refine old_trans ?_ (by with_reducible assumption)))⟩
set_option maxHeartbeats 4000000 in
theorem sArgs_3 (n : Int) (s : ByteArray) (hs : s.size ≤ maxLen) (w : World) : Calls Try.prog 100 #[.agg #[.int .i64 3, .int .i64 n, .string s]] w fun e w' => e = .returned (.int .i64 (ac ⟨3, n, s⟩)) ∧ Below w.heap.size w w' := by
  by_cases h0 : n = 0
  · subst h0
    by_cases hz : s.size = 0
    · obtain rfl := size_nil hz
      rw [acE_y 3 1 (by decide)]
      have hB := Below.refl w.heap.size w
      go_enter Try.func100, Try.ntmps100
      go_wp2
      go_ret
      exact ⟨rfl, (by repeat (first | with_reducible exact hB | with_reducible exact Below.refl _ _ | with_reducible refine Below.drew ?_ | ((with_reducible refine Below.setCell ?_ ?_ _); rotate_left; (focus (first | (simp; done) | omega | (simp; omega)))) | with_reducible refine old_alloc ?_ _ | with_reducible refine old_trans ?_ (by with_reducible assumption)))⟩
    · have ne := nonempty (s := s) (by omega)
      rw [acE_s 3 1 (by decide) hz]
      have hB := Below.refl w.heap.size w
      go_enter Try.func100, Try.ntmps100
      go_wp2
      go_ret
      exact ⟨rfl, (by repeat (first | with_reducible exact hB | with_reducible exact Below.refl _ _ | with_reducible refine Below.drew ?_ | ((with_reducible refine Below.setCell ?_ ?_ _); rotate_left; (focus (first | (simp; done) | omega | (simp; omega)))) | with_reducible refine old_alloc ?_ _ | with_reducible refine old_trans ?_ (by with_reducible assumption)))⟩
  · rw [acE_n 3 1 (by decide) h0]
    have h0' : (n == 0) = false := by simp; exact h0
    have hB := Below.refl w.heap.size w
    go_enter Try.func100, Try.ntmps100
    go_wp2
    go_ret
    exact ⟨rfl, (by repeat (first | with_reducible exact hB | with_reducible exact Below.refl _ _ | with_reducible refine Below.drew ?_ | ((with_reducible refine Below.setCell ?_ ?_ _); rotate_left; (focus (first | (simp; done) | omega | (simp; omega)))) | with_reducible refine old_alloc ?_ _ | with_reducible refine old_trans ?_ (by with_reducible assumption)))⟩
set_option maxHeartbeats 4000000 in
theorem sArgs_4 (n : Int) (s : ByteArray) (hs : s.size ≤ maxLen) (w : World) : Calls Try.prog 100 #[.agg #[.int .i64 4, .int .i64 n, .string s]] w fun e w' => e = .returned (.int .i64 (ac ⟨4, n, s⟩)) ∧ Below w.heap.size w w' := by
  by_cases h0 : n = 0
  · subst h0
    by_cases hz : s.size = 0
    · obtain rfl := size_nil hz
      rw [acE_y 4 2 (by decide)]
      have hB := Below.refl w.heap.size w
      go_enter Try.func100, Try.ntmps100
      go_wp2
      go_ret
      exact ⟨rfl, (by repeat (first | with_reducible exact hB | with_reducible exact Below.refl _ _ | with_reducible refine Below.drew ?_ | ((with_reducible refine Below.setCell ?_ ?_ _); rotate_left; (focus (first | (simp; done) | omega | (simp; omega)))) | with_reducible refine old_alloc ?_ _ | with_reducible refine old_trans ?_ (by with_reducible assumption)))⟩
    · have ne := nonempty (s := s) (by omega)
      rw [acE_s 4 2 (by decide) hz]
      have hB := Below.refl w.heap.size w
      go_enter Try.func100, Try.ntmps100
      go_wp2
      go_ret
      exact ⟨rfl, (by repeat (first | with_reducible exact hB | with_reducible exact Below.refl _ _ | with_reducible refine Below.drew ?_ | ((with_reducible refine Below.setCell ?_ ?_ _); rotate_left; (focus (first | (simp; done) | omega | (simp; omega)))) | with_reducible refine old_alloc ?_ _ | with_reducible refine old_trans ?_ (by with_reducible assumption)))⟩
  · rw [acE_n 4 2 (by decide) h0]
    have h0' : (n == 0) = false := by simp; exact h0
    have hB := Below.refl w.heap.size w
    go_enter Try.func100, Try.ntmps100
    go_wp2
    go_ret
    exact ⟨rfl, (by repeat (first | with_reducible exact hB | with_reducible exact Below.refl _ _ | with_reducible refine Below.drew ?_ | ((with_reducible refine Below.setCell ?_ ?_ _); rotate_left; (focus (first | (simp; done) | omega | (simp; omega)))) | with_reducible refine old_alloc ?_ _ | with_reducible refine old_trans ?_ (by with_reducible assumption)))⟩
set_option maxHeartbeats 4000000 in
theorem sArgs_5 (n : Int) (s : ByteArray) (hs : s.size ≤ maxLen) (w : World) : Calls Try.prog 100 #[.agg #[.int .i64 5, .int .i64 n, .string s]] w fun e w' => e = .returned (.int .i64 (ac ⟨5, n, s⟩)) ∧ Below w.heap.size w w' := by
  by_cases h0 : n = 0
  · subst h0
    by_cases hz : s.size = 0
    · obtain rfl := size_nil hz
      rw [acE_y 5 2 (by decide)]
      have hB := Below.refl w.heap.size w
      go_enter Try.func100, Try.ntmps100
      go_wp2
      go_ret
      exact ⟨rfl, (by repeat (first | with_reducible exact hB | with_reducible exact Below.refl _ _ | with_reducible refine Below.drew ?_ | ((with_reducible refine Below.setCell ?_ ?_ _); rotate_left; (focus (first | (simp; done) | omega | (simp; omega)))) | with_reducible refine old_alloc ?_ _ | with_reducible refine old_trans ?_ (by with_reducible assumption)))⟩
    · have ne := nonempty (s := s) (by omega)
      rw [acE_s 5 2 (by decide) hz]
      have hB := Below.refl w.heap.size w
      go_enter Try.func100, Try.ntmps100
      go_wp2
      go_ret
      exact ⟨rfl, (by repeat (first | with_reducible exact hB | with_reducible exact Below.refl _ _ | with_reducible refine Below.drew ?_ | ((with_reducible refine Below.setCell ?_ ?_ _); rotate_left; (focus (first | (simp; done) | omega | (simp; omega)))) | with_reducible refine old_alloc ?_ _ | with_reducible refine old_trans ?_ (by with_reducible assumption)))⟩
  · rw [acE_n 5 2 (by decide) h0]
    have h0' : (n == 0) = false := by simp; exact h0
    have hB := Below.refl w.heap.size w
    go_enter Try.func100, Try.ntmps100
    go_wp2
    go_ret
    exact ⟨rfl, (by repeat (first | with_reducible exact hB | with_reducible exact Below.refl _ _ | with_reducible refine Below.drew ?_ | ((with_reducible refine Below.setCell ?_ ?_ _); rotate_left; (focus (first | (simp; done) | omega | (simp; omega)))) | with_reducible refine old_alloc ?_ _ | with_reducible refine old_trans ?_ (by with_reducible assumption)))⟩
set_option maxHeartbeats 4000000 in
theorem sArgs_6 (n : Int) (s : ByteArray) (hs : s.size ≤ maxLen) (w : World) : Calls Try.prog 100 #[.agg #[.int .i64 6, .int .i64 n, .string s]] w fun e w' => e = .returned (.int .i64 (ac ⟨6, n, s⟩)) ∧ Below w.heap.size w w' := by
  by_cases h0 : n = 0
  · subst h0
    by_cases hz : s.size = 0
    · obtain rfl := size_nil hz
      rw [acE_y 6 2 (by decide)]
      have hB := Below.refl w.heap.size w
      go_enter Try.func100, Try.ntmps100
      go_wp2
      go_ret
      exact ⟨rfl, (by repeat (first | with_reducible exact hB | with_reducible exact Below.refl _ _ | with_reducible refine Below.drew ?_ | ((with_reducible refine Below.setCell ?_ ?_ _); rotate_left; (focus (first | (simp; done) | omega | (simp; omega)))) | with_reducible refine old_alloc ?_ _ | with_reducible refine old_trans ?_ (by with_reducible assumption)))⟩
    · have ne := nonempty (s := s) (by omega)
      rw [acE_s 6 2 (by decide) hz]
      have hB := Below.refl w.heap.size w
      go_enter Try.func100, Try.ntmps100
      go_wp2
      go_ret
      exact ⟨rfl, (by repeat (first | with_reducible exact hB | with_reducible exact Below.refl _ _ | with_reducible refine Below.drew ?_ | ((with_reducible refine Below.setCell ?_ ?_ _); rotate_left; (focus (first | (simp; done) | omega | (simp; omega)))) | with_reducible refine old_alloc ?_ _ | with_reducible refine old_trans ?_ (by with_reducible assumption)))⟩
  · rw [acE_n 6 2 (by decide) h0]
    have h0' : (n == 0) = false := by simp; exact h0
    have hB := Below.refl w.heap.size w
    go_enter Try.func100, Try.ntmps100
    go_wp2
    go_ret
    exact ⟨rfl, (by repeat (first | with_reducible exact hB | with_reducible exact Below.refl _ _ | with_reducible refine Below.drew ?_ | ((with_reducible refine Below.setCell ?_ ?_ _); rotate_left; (focus (first | (simp; done) | omega | (simp; omega)))) | with_reducible refine old_alloc ?_ _ | with_reducible refine old_trans ?_ (by with_reducible assumption)))⟩
set_option maxHeartbeats 4000000 in
theorem sArgs_7 (n : Int) (s : ByteArray) (hs : s.size ≤ maxLen) (w : World) : Calls Try.prog 100 #[.agg #[.int .i64 7, .int .i64 n, .string s]] w fun e w' => e = .returned (.int .i64 (ac ⟨7, n, s⟩)) ∧ Below w.heap.size w w' := by
  by_cases h0 : n = 0
  · subst h0
    by_cases hz : s.size = 0
    · obtain rfl := size_nil hz
      rw [acE_y 7 2 (by decide)]
      have hB := Below.refl w.heap.size w
      go_enter Try.func100, Try.ntmps100
      go_wp2
      go_ret
      exact ⟨rfl, (by repeat (first | with_reducible exact hB | with_reducible exact Below.refl _ _ | with_reducible refine Below.drew ?_ | ((with_reducible refine Below.setCell ?_ ?_ _); rotate_left; (focus (first | (simp; done) | omega | (simp; omega)))) | with_reducible refine old_alloc ?_ _ | with_reducible refine old_trans ?_ (by with_reducible assumption)))⟩
    · have ne := nonempty (s := s) (by omega)
      rw [acE_s 7 2 (by decide) hz]
      have hB := Below.refl w.heap.size w
      go_enter Try.func100, Try.ntmps100
      go_wp2
      go_ret
      exact ⟨rfl, (by repeat (first | with_reducible exact hB | with_reducible exact Below.refl _ _ | with_reducible refine Below.drew ?_ | ((with_reducible refine Below.setCell ?_ ?_ _); rotate_left; (focus (first | (simp; done) | omega | (simp; omega)))) | with_reducible refine old_alloc ?_ _ | with_reducible refine old_trans ?_ (by with_reducible assumption)))⟩
  · rw [acE_n 7 2 (by decide) h0]
    have h0' : (n == 0) = false := by simp; exact h0
    have hB := Below.refl w.heap.size w
    go_enter Try.func100, Try.ntmps100
    go_wp2
    go_ret
    exact ⟨rfl, (by repeat (first | with_reducible exact hB | with_reducible exact Below.refl _ _ | with_reducible refine Below.drew ?_ | ((with_reducible refine Below.setCell ?_ ?_ _); rotate_left; (focus (first | (simp; done) | omega | (simp; omega)))) | with_reducible refine old_alloc ?_ _ | with_reducible refine old_trans ?_ (by with_reducible assumption)))⟩
set_option maxHeartbeats 4000000 in
theorem sArgs_8 (n : Int) (s : ByteArray) (hs : s.size ≤ maxLen) (w : World) : Calls Try.prog 100 #[.agg #[.int .i64 8, .int .i64 n, .string s]] w fun e w' => e = .returned (.int .i64 (ac ⟨8, n, s⟩)) ∧ Below w.heap.size w w' := by
  by_cases nz : n = 0
  · subst nz
    by_cases hz : s.size = 0
    · obtain rfl := size_nil hz
      rw [ac8_y (by decide) (by decide)]
      have hB := Below.refl w.heap.size w
      go_enter Try.func100, Try.ntmps100
      go_wp2
      go_ret
      exact ⟨rfl, (by repeat (first | with_reducible exact hB | with_reducible exact Below.refl _ _ | with_reducible refine Below.drew ?_ | ((with_reducible refine Below.setCell ?_ ?_ _); rotate_left; (focus (first | (simp; done) | omega | (simp; omega)))) | with_reducible refine old_alloc ?_ _ | with_reducible refine old_trans ?_ (by with_reducible assumption)))⟩
    · have ne := nonempty (s := s) (by omega)
      rw [ac8_n (by omega)]
      have hB := Below.refl w.heap.size w
      go_enter Try.func100, Try.ntmps100
      go_wp2
      go_ret
      exact ⟨rfl, (by repeat (first | with_reducible exact hB | with_reducible exact Below.refl _ _ | with_reducible refine Below.drew ?_ | ((with_reducible refine Below.setCell ?_ ?_ _); rotate_left; (focus (first | (simp; done) | omega | (simp; omega)))) | with_reducible refine old_alloc ?_ _ | with_reducible refine old_trans ?_ (by with_reducible assumption)))⟩
  have n0 : (n == 0) = false := by simp; exact nz
  by_cases h0 : 0 ≤ n
  · have g0 : decide (0 ≤ n) = true := decide_eq_true h0
    by_cases h8 : n ≤ 8
    · have g8 : decide (n ≤ 8) = true := decide_eq_true h8
      by_cases hz : s.size = 0
      · obtain rfl := size_nil hz
        rw [ac8_y h0 h8]
        have hB := Below.refl w.heap.size w
        go_enter Try.func100, Try.ntmps100
        go_wp2
        go_ret
        exact ⟨rfl, (by repeat (first | with_reducible exact hB | with_reducible exact Below.refl _ _ | with_reducible refine Below.drew ?_ | ((with_reducible refine Below.setCell ?_ ?_ _); rotate_left; (focus (first | (simp; done) | omega | (simp; omega)))) | with_reducible refine old_alloc ?_ _ | with_reducible refine old_trans ?_ (by with_reducible assumption)))⟩
      · have ne := nonempty (s := s) (by omega)
        rw [ac8_n (by omega)]
        have hB := Below.refl w.heap.size w
        go_enter Try.func100, Try.ntmps100
        go_wp2
        go_ret
        exact ⟨rfl, (by repeat (first | with_reducible exact hB | with_reducible exact Below.refl _ _ | with_reducible refine Below.drew ?_ | ((with_reducible refine Below.setCell ?_ ?_ _); rotate_left; (focus (first | (simp; done) | omega | (simp; omega)))) | with_reducible refine old_alloc ?_ _ | with_reducible refine old_trans ?_ (by with_reducible assumption)))⟩
    · have g8 : decide (n ≤ 8) = false := decide_eq_false h8
      rw [ac8_n (by omega)]
      have hB := Below.refl w.heap.size w
      go_enter Try.func100, Try.ntmps100
      go_wp2
      go_ret
      exact ⟨rfl, (by repeat (first | with_reducible exact hB | with_reducible exact Below.refl _ _ | with_reducible refine Below.drew ?_ | ((with_reducible refine Below.setCell ?_ ?_ _); rotate_left; (focus (first | (simp; done) | omega | (simp; omega)))) | with_reducible refine old_alloc ?_ _ | with_reducible refine old_trans ?_ (by with_reducible assumption)))⟩
  · have g0 : decide (0 ≤ n) = false := decide_eq_false h0
    rw [ac8_n (by omega)]
    have hB := Below.refl w.heap.size w
    go_enter Try.func100, Try.ntmps100
    go_wp2
    go_ret
    exact ⟨rfl, (by repeat (first | with_reducible exact hB | with_reducible exact Below.refl _ _ | with_reducible refine Below.drew ?_ | ((with_reducible refine Below.setCell ?_ ?_ _); rotate_left; (focus (first | (simp; done) | omega | (simp; omega)))) | with_reducible refine old_alloc ?_ _ | with_reducible refine old_trans ?_ (by with_reducible assumption)))⟩
set_option maxHeartbeats 4000000 in
theorem sArgs_9 (n : Int) (s : ByteArray) (hs : s.size ≤ maxLen) (w : World) : Calls Try.prog 100 #[.agg #[.int .i64 9, .int .i64 n, .string s]] w fun e w' => e = .returned (.int .i64 (ac ⟨9, n, s⟩)) ∧ Below w.heap.size w w' := by
  by_cases h0 : n = 0
  · subst h0
    by_cases hz : s.size = 0
    · obtain rfl := size_nil hz
      rw [acE_y 9 1 (by decide)]
      have hB := Below.refl w.heap.size w
      go_enter Try.func100, Try.ntmps100
      go_wp2
      go_ret
      exact ⟨rfl, (by repeat (first | with_reducible exact hB | with_reducible exact Below.refl _ _ | with_reducible refine Below.drew ?_ | ((with_reducible refine Below.setCell ?_ ?_ _); rotate_left; (focus (first | (simp; done) | omega | (simp; omega)))) | with_reducible refine old_alloc ?_ _ | with_reducible refine old_trans ?_ (by with_reducible assumption)))⟩
    · have ne := nonempty (s := s) (by omega)
      rw [acE_s 9 1 (by decide) hz]
      have hB := Below.refl w.heap.size w
      go_enter Try.func100, Try.ntmps100
      go_wp2
      go_ret
      exact ⟨rfl, (by repeat (first | with_reducible exact hB | with_reducible exact Below.refl _ _ | with_reducible refine Below.drew ?_ | ((with_reducible refine Below.setCell ?_ ?_ _); rotate_left; (focus (first | (simp; done) | omega | (simp; omega)))) | with_reducible refine old_alloc ?_ _ | with_reducible refine old_trans ?_ (by with_reducible assumption)))⟩
  · rw [acE_n 9 1 (by decide) h0]
    have h0' : (n == 0) = false := by simp; exact h0
    have hB := Below.refl w.heap.size w
    go_enter Try.func100, Try.ntmps100
    go_wp2
    go_ret
    exact ⟨rfl, (by repeat (first | with_reducible exact hB | with_reducible exact Below.refl _ _ | with_reducible refine Below.drew ?_ | ((with_reducible refine Below.setCell ?_ ?_ _); rotate_left; (focus (first | (simp; done) | omega | (simp; omega)))) | with_reducible refine old_alloc ?_ _ | with_reducible refine old_trans ?_ (by with_reducible assumption)))⟩
set_option maxHeartbeats 4000000 in
theorem sArgs_10 (n : Int) (s : ByteArray) (hs : s.size ≤ maxLen) (w : World) : Calls Try.prog 100 #[.agg #[.int .i64 10, .int .i64 n, .string s]] w fun e w' => e = .returned (.int .i64 (ac ⟨10, n, s⟩)) ∧ Below w.heap.size w w' := by
  by_cases h0 : n = 0
  · subst h0
    by_cases hz : s.size = 0
    · obtain rfl := size_nil hz
      rw [acE_y 10 1 (by decide)]
      have hB := Below.refl w.heap.size w
      go_enter Try.func100, Try.ntmps100
      go_wp2
      go_ret
      exact ⟨rfl, (by repeat (first | with_reducible exact hB | with_reducible exact Below.refl _ _ | with_reducible refine Below.drew ?_ | ((with_reducible refine Below.setCell ?_ ?_ _); rotate_left; (focus (first | (simp; done) | omega | (simp; omega)))) | with_reducible refine old_alloc ?_ _ | with_reducible refine old_trans ?_ (by with_reducible assumption)))⟩
    · have ne := nonempty (s := s) (by omega)
      rw [acE_s 10 1 (by decide) hz]
      have hB := Below.refl w.heap.size w
      go_enter Try.func100, Try.ntmps100
      go_wp2
      go_ret
      exact ⟨rfl, (by repeat (first | with_reducible exact hB | with_reducible exact Below.refl _ _ | with_reducible refine Below.drew ?_ | ((with_reducible refine Below.setCell ?_ ?_ _); rotate_left; (focus (first | (simp; done) | omega | (simp; omega)))) | with_reducible refine old_alloc ?_ _ | with_reducible refine old_trans ?_ (by with_reducible assumption)))⟩
  · rw [acE_n 10 1 (by decide) h0]
    have h0' : (n == 0) = false := by simp; exact h0
    have hB := Below.refl w.heap.size w
    go_enter Try.func100, Try.ntmps100
    go_wp2
    go_ret
    exact ⟨rfl, (by repeat (first | with_reducible exact hB | with_reducible exact Below.refl _ _ | with_reducible refine Below.drew ?_ | ((with_reducible refine Below.setCell ?_ ?_ _); rotate_left; (focus (first | (simp; done) | omega | (simp; omega)))) | with_reducible refine old_alloc ?_ _ | with_reducible refine old_trans ?_ (by with_reducible assumption)))⟩
set_option maxHeartbeats 4000000 in
theorem sArgs_11 (n : Int) (s : ByteArray) (hs : s.size ≤ maxLen) (w : World) : Calls Try.prog 100 #[.agg #[.int .i64 11, .int .i64 n, .string s]] w fun e w' => e = .returned (.int .i64 (ac ⟨11, n, s⟩)) ∧ Below w.heap.size w w' := by
  by_cases h0 : n = 0
  · subst h0
    by_cases hz : s.size = 0
    · obtain rfl := size_nil hz
      rw [acE_y 11 2 (by decide)]
      have hB := Below.refl w.heap.size w
      go_enter Try.func100, Try.ntmps100
      go_wp2
      go_ret
      exact ⟨rfl, (by repeat (first | with_reducible exact hB | with_reducible exact Below.refl _ _ | with_reducible refine Below.drew ?_ | ((with_reducible refine Below.setCell ?_ ?_ _); rotate_left; (focus (first | (simp; done) | omega | (simp; omega)))) | with_reducible refine old_alloc ?_ _ | with_reducible refine old_trans ?_ (by with_reducible assumption)))⟩
    · have ne := nonempty (s := s) (by omega)
      rw [acE_s 11 2 (by decide) hz]
      have hB := Below.refl w.heap.size w
      go_enter Try.func100, Try.ntmps100
      go_wp2
      go_ret
      exact ⟨rfl, (by repeat (first | with_reducible exact hB | with_reducible exact Below.refl _ _ | with_reducible refine Below.drew ?_ | ((with_reducible refine Below.setCell ?_ ?_ _); rotate_left; (focus (first | (simp; done) | omega | (simp; omega)))) | with_reducible refine old_alloc ?_ _ | with_reducible refine old_trans ?_ (by with_reducible assumption)))⟩
  · rw [acE_n 11 2 (by decide) h0]
    have h0' : (n == 0) = false := by simp; exact h0
    have hB := Below.refl w.heap.size w
    go_enter Try.func100, Try.ntmps100
    go_wp2
    go_ret
    exact ⟨rfl, (by repeat (first | with_reducible exact hB | with_reducible exact Below.refl _ _ | with_reducible refine Below.drew ?_ | ((with_reducible refine Below.setCell ?_ ?_ _); rotate_left; (focus (first | (simp; done) | omega | (simp; omega)))) | with_reducible refine old_alloc ?_ _ | with_reducible refine old_trans ?_ (by with_reducible assumption)))⟩
set_option maxHeartbeats 4000000 in
theorem sArgs_12 (n : Int) (s : ByteArray) (hs : s.size ≤ maxLen) (w : World) : Calls Try.prog 100 #[.agg #[.int .i64 12, .int .i64 n, .string s]] w fun e w' => e = .returned (.int .i64 (ac ⟨12, n, s⟩)) ∧ Below w.heap.size w w' := by
  by_cases h0 : n = 0
  · subst h0
    by_cases hz : s.size = 0
    · obtain rfl := size_nil hz
      rw [acE_y 12 2 (by decide)]
      have hB := Below.refl w.heap.size w
      go_enter Try.func100, Try.ntmps100
      go_wp2
      go_ret
      exact ⟨rfl, (by repeat (first | with_reducible exact hB | with_reducible exact Below.refl _ _ | with_reducible refine Below.drew ?_ | ((with_reducible refine Below.setCell ?_ ?_ _); rotate_left; (focus (first | (simp; done) | omega | (simp; omega)))) | with_reducible refine old_alloc ?_ _ | with_reducible refine old_trans ?_ (by with_reducible assumption)))⟩
    · have ne := nonempty (s := s) (by omega)
      rw [acE_s 12 2 (by decide) hz]
      have hB := Below.refl w.heap.size w
      go_enter Try.func100, Try.ntmps100
      go_wp2
      go_ret
      exact ⟨rfl, (by repeat (first | with_reducible exact hB | with_reducible exact Below.refl _ _ | with_reducible refine Below.drew ?_ | ((with_reducible refine Below.setCell ?_ ?_ _); rotate_left; (focus (first | (simp; done) | omega | (simp; omega)))) | with_reducible refine old_alloc ?_ _ | with_reducible refine old_trans ?_ (by with_reducible assumption)))⟩
  · rw [acE_n 12 2 (by decide) h0]
    have h0' : (n == 0) = false := by simp; exact h0
    have hB := Below.refl w.heap.size w
    go_enter Try.func100, Try.ntmps100
    go_wp2
    go_ret
    exact ⟨rfl, (by repeat (first | with_reducible exact hB | with_reducible exact Below.refl _ _ | with_reducible refine Below.drew ?_ | ((with_reducible refine Below.setCell ?_ ?_ _); rotate_left; (focus (first | (simp; done) | omega | (simp; omega)))) | with_reducible refine old_alloc ?_ _ | with_reducible refine old_trans ?_ (by with_reducible assumption)))⟩
set_option maxHeartbeats 4000000 in
theorem sArgs_13 (n : Int) (s : ByteArray) (hs : s.size ≤ maxLen) (w : World) : Calls Try.prog 100 #[.agg #[.int .i64 13, .int .i64 n, .string s]] w fun e w' => e = .returned (.int .i64 (ac ⟨13, n, s⟩)) ∧ Below w.heap.size w w' := by
  by_cases h0 : 1 ≤ n
  · have g0 : decide (1 ≤ n) = true := decide_eq_true h0
    have n0 : (n == 0) = false := by simp; omega
    by_cases h8 : n ≤ 6
    · have g8 : decide (n ≤ 6) = true := decide_eq_true h8
      have c1 := ac13_f (n := n) (s := s)
      have c2 := fun h => ac13_t (n := n) (s := s) h0 h8 h
      have P := hd (sNameOkB s)
      have hBB : Below w.heap.size w (w.alloc (.cells #[.int .i64 13, .int .i64 n, .string s] 104)) := old_alloc (Below.refl _ _) _
      cases hr : nameB s
      · rw [hr] at P
        rw [c1 hr]
        clear c1 c2
        clear hr
        go_enter Try.func100, Try.ntmps100
        go_wp2_with fail
        refine (P.out _).mono ?_
        rintro e w1 ⟨rfl, hb1⟩
        have hB := old_trans hBB hb1
        have n1 := (CS.made w _ rfl #[.int .i64 13, .int .i64 n, .string s] 104).later hb1
        have m0 := n1.cell 0 _ rfl
        have m1 := n1.cell 1 _ rfl
        have m2 := n1.cell 2 _ rfl
        clear n1 hb1 hBB P
        go_wp2
        go_ret
        exact ⟨rfl, (by repeat (first | with_reducible exact hB | with_reducible exact Below.refl _ _ | with_reducible refine Below.drew ?_ | ((with_reducible refine Below.setCell ?_ ?_ _); rotate_left; (focus (first | (simp; done) | omega | (simp; omega)))) | with_reducible refine old_alloc ?_ _ | with_reducible refine old_trans ?_ (by with_reducible assumption)))⟩
      · rw [hr] at P
        rw [c2 hr]
        clear c1 c2
        clear hr
        go_enter Try.func100, Try.ntmps100
        go_wp2_with fail
        refine (P.out _).mono ?_
        rintro e w1 ⟨rfl, hb1⟩
        have hB := old_trans hBB hb1
        have n1 := (CS.made w _ rfl #[.int .i64 13, .int .i64 n, .string s] 104).later hb1
        have m0 := n1.cell 0 _ rfl
        have m1 := n1.cell 1 _ rfl
        have m2 := n1.cell 2 _ rfl
        clear n1 hb1 hBB P
        go_wp2
        go_ret
        exact ⟨rfl, (by repeat (first | with_reducible exact hB | with_reducible exact Below.refl _ _ | with_reducible refine Below.drew ?_ | ((with_reducible refine Below.setCell ?_ ?_ _); rotate_left; (focus (first | (simp; done) | omega | (simp; omega)))) | with_reducible refine old_alloc ?_ _ | with_reducible refine old_trans ?_ (by with_reducible assumption)))⟩
    · have g8 : decide (n ≤ 6) = false := decide_eq_false h8
      rw [ac13_n (by omega)]
      have hB := Below.refl w.heap.size w
      go_enter Try.func100, Try.ntmps100
      go_wp2
      go_ret
      exact ⟨rfl, (by repeat (first | with_reducible exact hB | with_reducible exact Below.refl _ _ | with_reducible refine Below.drew ?_ | ((with_reducible refine Below.setCell ?_ ?_ _); rotate_left; (focus (first | (simp; done) | omega | (simp; omega)))) | with_reducible refine old_alloc ?_ _ | with_reducible refine old_trans ?_ (by with_reducible assumption)))⟩
  · have g0 : decide (1 ≤ n) = false := decide_eq_false h0
    rw [ac13_n (by omega)]
    by_cases nz : n = 0
    · subst nz
      by_cases hz : s.size = 0
      · obtain rfl := size_nil hz
        have hB := Below.refl w.heap.size w
        go_enter Try.func100, Try.ntmps100
        go_wp2
        go_ret
        exact ⟨rfl, (by repeat (first | with_reducible exact hB | with_reducible exact Below.refl _ _ | with_reducible refine Below.drew ?_ | ((with_reducible refine Below.setCell ?_ ?_ _); rotate_left; (focus (first | (simp; done) | omega | (simp; omega)))) | with_reducible refine old_alloc ?_ _ | with_reducible refine old_trans ?_ (by with_reducible assumption)))⟩
      · have ne := nonempty (s := s) (by omega)
        have hB := Below.refl w.heap.size w
        go_enter Try.func100, Try.ntmps100
        go_wp2
        go_ret
        exact ⟨rfl, (by repeat (first | with_reducible exact hB | with_reducible exact Below.refl _ _ | with_reducible refine Below.drew ?_ | ((with_reducible refine Below.setCell ?_ ?_ _); rotate_left; (focus (first | (simp; done) | omega | (simp; omega)))) | with_reducible refine old_alloc ?_ _ | with_reducible refine old_trans ?_ (by with_reducible assumption)))⟩
    · have n0 : (n == 0) = false := by simp; exact nz
      have hB := Below.refl w.heap.size w
      go_enter Try.func100, Try.ntmps100
      go_wp2
      go_ret
      exact ⟨rfl, (by repeat (first | with_reducible exact hB | with_reducible exact Below.refl _ _ | with_reducible refine Below.drew ?_ | ((with_reducible refine Below.setCell ?_ ?_ _); rotate_left; (focus (first | (simp; done) | omega | (simp; omega)))) | with_reducible refine old_alloc ?_ _ | with_reducible refine old_trans ?_ (by with_reducible assumption)))⟩
set_option maxHeartbeats 4000000 in
theorem sArgs_o (k : Int) (hk : k < 1 ∨ 13 < k) (n : Int) (s : ByteArray) (hs : s.size ≤ maxLen) (w : World) : Calls Try.prog 100 #[.agg #[.int .i64 k, .int .i64 n, .string s]] w fun e w' => e = .returned (.int .i64 (ac ⟨k, n, s⟩)) ∧ Below w.heap.size w w' := by
  have hB := Below.refl w.heap.size w
  have q1 : (k == 1) = false := by simp; omega
  have q2 : (k == 2) = false := by simp; omega
  have q3 : (k == 3) = false := by simp; omega
  have q4 : (k == 4) = false := by simp; omega
  have q5 : (k == 5) = false := by simp; omega
  have q6 : (k == 6) = false := by simp; omega
  have q7 : (k == 7) = false := by simp; omega
  have q8 : (k == 8) = false := by simp; omega
  have q9 : (k == 9) = false := by simp; omega
  have q10 : (k == 10) = false := by simp; omega
  have q11 : (k == 11) = false := by simp; omega
  have q12 : (k == 12) = false := by simp; omega
  have q13 : (k == 13) = false := by simp; omega
  rw [acO hk]
  clear hk
  go_enter Try.func100, Try.ntmps100
  go_wp2
  go_ret
  exact ⟨rfl, (by repeat (first | with_reducible exact hB | with_reducible exact Below.refl _ _ | with_reducible refine Below.drew ?_ | ((with_reducible refine Below.setCell ?_ ?_ _); rotate_left; (focus (first | (simp; done) | omega | (simp; omega)))) | with_reducible refine old_alloc ?_ _ | with_reducible refine old_trans ?_ (by with_reducible assumption)))⟩
theorem sArgs (k n : Int) (s : ByteArray) (hs : s.size ≤ maxLen) (w : World) : Calls Try.prog 100 #[.agg #[.int .i64 k, .int .i64 n, .string s]] w fun e w' => e = .returned (.int .i64 (ac ⟨k, n, s⟩)) ∧ Below w.heap.size w w' := by
  rcases k_cases k with rfl | rfl | rfl | rfl | rfl | rfl | rfl | rfl | rfl | rfl | rfl | rfl | rfl | h
  · exact sArgs_1 n s hs w
  · exact sArgs_2 n s hs w
  · exact sArgs_3 n s hs w
  · exact sArgs_4 n s hs w
  · exact sArgs_5 n s hs w
  · exact sArgs_6 n s hs w
  · exact sArgs_7 n s hs w
  · exact sArgs_8 n s hs w
  · exact sArgs_9 n s hs w
  · exact sArgs_10 n s hs w
  · exact sArgs_11 n s hs w
  · exact sArgs_12 n s hs w
  · exact sArgs_13 n s hs w
  · exact sArgs_o k h n s hs w
end Go.Proofs.Ytmpckbgelkfgpaa
