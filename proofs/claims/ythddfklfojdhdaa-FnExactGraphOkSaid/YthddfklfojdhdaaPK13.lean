/- Limits of a graph, variables and made nodes of it, by the program. Nothing that was there is written. No condition but that the graph is there. -/
import Derived.Test.YthddfklfojdhdaaPK12
namespace Go.Proofs.Ythddfklfojdhdaa
open Go.RowKit
set_option linter.unusedVariables false
set_option maxRecDepth 100000

set_option maxHeartbeats 4000000 in
theorem iLim (vs : Int) (a : Option Addr) (len cap : Nat) (xs : List Gn) (a' : Option Addr) (len' cap' : Nat) (w : World) :
    Calls Try.prog 15 #[.agg #[.int .i64 vs, .slice a len cap, .slice a' len' cap']] w fun e w' => BoolIs e (gLim vs len len') ∧ Below w.heap.size w w' := by
  have K := CS.made w _ rfl #[.int .i64 vs, .slice a len cap, .slice a' len' cap'] 31
  have hB := old_alloc (Below.refl w.heap.size w) (.cells #[.int .i64 vs, .slice a len cap, .slice a' len' cap'] 31)
  have m0 := K.cell 0 _ rfl
  have m1 := K.cell 1 _ rfl
  have m2 := K.cell 2 _ rfl
  have hcase : (¬ gLim vs len len' ∧ (vs < 1 ∨ (1 ≤ vs ∧ (len : Int) < vs) ∨ (1 ≤ vs ∧ vs ≤ (len : Int) ∧ (len' : Int) < 1) ∨ (1 ≤ vs ∧ vs ≤ (len : Int) ∧ 1 ≤ (len' : Int) ∧ 6 < vs) ∨ (1 ≤ vs ∧ vs ≤ (len : Int) ∧ 1 ≤ (len' : Int) ∧ vs ≤ 6 ∧ 120 < (len : Int)) ∨ (1 ≤ vs ∧ vs ≤ (len : Int) ∧ 1 ≤ (len' : Int) ∧ vs ≤ 6 ∧ (len : Int) ≤ 120 ∧ 12 < (len' : Int)))) ∨ (gLim vs len len' ∧ (1 ≤ vs ∧ vs ≤ (len : Int) ∧ 1 ≤ (len' : Int) ∧ vs ≤ 6 ∧ (len : Int) ≤ 120 ∧ (len' : Int) ≤ 12)) := by
    unfold gLim
    omega
  rcases hcase with ⟨no, hcase⟩ | ⟨yes, h⟩
  · replace no := hd no
    rcases hcase with h | h | h | h | h | h
    · have q0 : decide (1 ≤ vs) = false := decide_eq_false (by omega)
      clear h
      go_enter Try.func15, Try.ntmps15
      go_wp2
      go_ret
      exact ⟨BoolIs.no no.out (by first | rfl | (simp; done) | (simp; omega)), hB⟩
    · have q0 : decide (1 ≤ vs) = true := decide_eq_true (by omega)
      have q1 : decide (vs ≤ (len : Int)) = false := decide_eq_false (by omega)
      clear h
      go_enter Try.func15, Try.ntmps15
      go_wp2
      go_ret
      exact ⟨BoolIs.no no.out (by first | rfl | (simp; done) | (simp; omega)), hB⟩
    · have q0 : decide (1 ≤ vs) = true := decide_eq_true (by omega)
      have q1 : decide (vs ≤ (len : Int)) = true := decide_eq_true (by omega)
      have q2 : decide (1 ≤ (len' : Int)) = false := decide_eq_false (by omega)
      clear h
      go_enter Try.func15, Try.ntmps15
      go_wp2
      go_ret
      exact ⟨BoolIs.no no.out (by first | rfl | (simp; done) | (simp; omega)), hB⟩
    · have q0 : decide (1 ≤ vs) = true := decide_eq_true (by omega)
      have q1 : decide (vs ≤ (len : Int)) = true := decide_eq_true (by omega)
      have q2 : decide (1 ≤ (len' : Int)) = true := decide_eq_true (by omega)
      have q3 : decide (vs ≤ 6) = false := decide_eq_false (by omega)
      clear h
      go_enter Try.func15, Try.ntmps15
      go_wp2
      go_ret
      exact ⟨BoolIs.no no.out (by first | rfl | (simp; done) | (simp; omega)), hB⟩
    · have q0 : decide (1 ≤ vs) = true := decide_eq_true (by omega)
      have q1 : decide (vs ≤ (len : Int)) = true := decide_eq_true (by omega)
      have q2 : decide (1 ≤ (len' : Int)) = true := decide_eq_true (by omega)
      have q3 : decide (vs ≤ 6) = true := decide_eq_true (by omega)
      have q4 : decide ((len : Int) ≤ 120) = false := decide_eq_false (by omega)
      clear h
      go_enter Try.func15, Try.ntmps15
      go_wp2
      go_ret
      exact ⟨BoolIs.no no.out (by first | rfl | (simp; done) | (simp; omega)), hB⟩
    · have q0 : decide (1 ≤ vs) = true := decide_eq_true (by omega)
      have q1 : decide (vs ≤ (len : Int)) = true := decide_eq_true (by omega)
      have q2 : decide (1 ≤ (len' : Int)) = true := decide_eq_true (by omega)
      have q3 : decide (vs ≤ 6) = true := decide_eq_true (by omega)
      have q4 : decide ((len : Int) ≤ 120) = true := decide_eq_true (by omega)
      have q5 : decide ((len' : Int) ≤ 12) = false := decide_eq_false (by omega)
      clear h
      go_enter Try.func15, Try.ntmps15
      go_wp2
      go_ret
      exact ⟨BoolIs.no no.out (by first | rfl | (simp; done) | (simp; omega)), hB⟩
  · replace yes := hd yes
    have q0 : decide (1 ≤ vs) = true := decide_eq_true (by omega)
    have q1 : decide (vs ≤ (len : Int)) = true := decide_eq_true (by omega)
    have q2 : decide (1 ≤ (len' : Int)) = true := decide_eq_true (by omega)
    have q3 : decide (vs ≤ 6) = true := decide_eq_true (by omega)
    have q4 : decide ((len : Int) ≤ 120) = true := decide_eq_true (by omega)
    have q5 : decide ((len' : Int) ≤ 12) = true := decide_eq_true (by omega)
    clear h
    go_enter Try.func15, Try.ntmps15
    go_wp2
    go_ret
    exact ⟨BoolIs.yes yes.out (by first | rfl | (simp; done) | (simp; omega)), hB⟩
set_option maxRecDepth 100000 in
set_option maxHeartbeats 4000000 in
theorem iVar (vs : Int) (a : Option Addr) (len cap : Nat) (xs : List Gn) (a' : Option Addr) (len' cap' : Nat) (i : Nat) (w : World) (hR : InGn w a len cap xs) (hi : i < len) :
    Calls Try.prog 18 #[.agg #[.int .i64 vs, .slice a len cap, .slice a' len' cap'], .int .i64 (i : Int)] w fun e w' => BoolIs e (xs.getD i gn0 = gvar i) ∧ Below w.heap.size w w' := by
  have K := CS.made w _ rfl #[.int .i64 vs, .slice a len cap, .slice a' len' cap'] 31
  have hB0 := old_alloc (Below.refl w.heap.size w) (.cells #[.int .i64 vs, .slice a len cap, .slice a' len' cap'] 31)
  obtain ⟨bl, off, k, u, v, n, s, rfl, hbl, hx, hf, c0, c1, c2, c3, c4⟩ := (hR.old hB0).at hi
  rw [hx]
  have heI : (0 : Int) ≤ (i : Int) := by omega
  have heJ : (i : Int) < (len : Int) := by omega
  have m1 := K.cell 1 _ rfl
  clear hR hx hf hbl hi
  by_cases e0 : k = 2
  case neg =>
    have g0 : (k == 2) = false := beq_eq_false_iff_ne.2 e0
    go_enter Try.func18, Try.ntmps18
    go_wp2
    go_ret
    exact ⟨BoolIs.no (by simp [gvar, e0]) rfl, (by repeat (first | with_reducible exact Below.refl _ _ | with_reducible refine Below.drew ?_ | ((with_reducible refine Below.setCell ?_ ?_ _); rotate_left; (focus (first | (simp; done) | omega | (simp; omega)))) | with_reducible refine old_alloc ?_ _ | with_reducible refine old_trans ?_ (by with_reducible assumption)))⟩
  subst e0
  by_cases e1 : u = 0
  case neg =>
    have g0 : (u == 0) = false := beq_eq_false_iff_ne.2 e1
    go_enter Try.func18, Try.ntmps18
    go_wp2
    go_ret
    exact ⟨BoolIs.no (by simp [gvar, e1]) rfl, (by repeat (first | with_reducible exact Below.refl _ _ | with_reducible refine Below.drew ?_ | ((with_reducible refine Below.setCell ?_ ?_ _); rotate_left; (focus (first | (simp; done) | omega | (simp; omega)))) | with_reducible refine old_alloc ?_ _ | with_reducible refine old_trans ?_ (by with_reducible assumption)))⟩
  subst e1
  by_cases e2 : v = 0
  case neg =>
    have g0 : (v == 0) = false := beq_eq_false_iff_ne.2 e2
    go_enter Try.func18, Try.ntmps18
    go_wp2
    go_ret
    exact ⟨BoolIs.no (by simp [gvar, e2]) rfl, (by repeat (first | with_reducible exact Below.refl _ _ | with_reducible refine Below.drew ?_ | ((with_reducible refine Below.setCell ?_ ?_ _); rotate_left; (focus (first | (simp; done) | omega | (simp; omega)))) | with_reducible refine old_alloc ?_ _ | with_reducible refine old_trans ?_ (by with_reducible assumption)))⟩
  subst e2
  by_cases e3 : n = (i : Int)
  case neg =>
    have g0 : (n == (i : Int)) = false := beq_eq_false_iff_ne.2 e3
    go_enter Try.func18, Try.ntmps18
    go_wp2
    go_ret
    exact ⟨BoolIs.no (by simp [gvar, e3]) rfl, (by repeat (first | with_reducible exact Below.refl _ _ | with_reducible refine Below.drew ?_ | ((with_reducible refine Below.setCell ?_ ?_ _); rotate_left; (focus (first | (simp; done) | omega | (simp; omega)))) | with_reducible refine old_alloc ?_ _ | with_reducible refine old_trans ?_ (by with_reducible assumption)))⟩
  subst e3
  by_cases e4 : s.size = 0
  case neg =>
    have ne := nonempty (s := s) (by omega)
    have nn := not_nil e4
    go_enter Try.func18, Try.ntmps18
    go_wp2
    go_ret
    exact ⟨BoolIs.no (by simp [gvar, nn]) rfl, (by repeat (first | with_reducible exact Below.refl _ _ | with_reducible refine Below.drew ?_ | ((with_reducible refine Below.setCell ?_ ?_ _); rotate_left; (focus (first | (simp; done) | omega | (simp; omega)))) | with_reducible refine old_alloc ?_ _ | with_reducible refine old_trans ?_ (by with_reducible assumption)))⟩
  obtain rfl := size_nil e4
  go_enter Try.func18, Try.ntmps18
  go_wp2
  go_ret
  exact ⟨BoolIs.yes (by simp [gvar]) rfl, (by repeat (first | with_reducible exact Below.refl _ _ | with_reducible refine Below.drew ?_ | ((with_reducible refine Below.setCell ?_ ?_ _); rotate_left; (focus (first | (simp; done) | omega | (simp; omega)))) | with_reducible refine old_alloc ?_ _ | with_reducible refine old_trans ?_ (by with_reducible assumption)))⟩
set_option maxHeartbeats 1000000 in
theorem iOwnGn (k u v n : Int) (s : ByteArray) (w : World) :
    Calls Try.prog 30 #[.agg #[.int .i64 k, .int .i64 u, .int .i64 v, .int .i64 n, .string s]] w fun e w' => e = .returned (.agg #[.int .i64 k, .int .i64 n, .string s]) ∧ Below w.heap.size w w' := by
  go_enter Try.func30, Try.ntmps30
  go_wp2
  refine bodyPost_ret (v := .agg #[.int .i64 k, .int .i64 n, .string s]) ?_ rfl ⟨rfl, (by repeat (first | with_reducible exact Below.refl _ _ | with_reducible refine Below.drew ?_ | ((with_reducible refine Below.setCell ?_ ?_ _); rotate_left; (focus (first | (simp; done) | omega | (simp; omega)))) | with_reducible refine old_alloc ?_ _ | with_reducible refine old_trans ?_ (by with_reducible assumption)))⟩
  simp [results, Try.results30, go_sem]
set_option maxRecDepth 100000 in
set_option maxHeartbeats 8000000 in
theorem iMade (vs : Int) (a : Option Addr) (len cap : Nat) (xs : List Gn) (a' : Option Addr) (len' cap' : Nat) (i : Nat) (w : World) (hR : InGn w a len cap xs) (hi : i < len) :
    Calls Try.prog 19 #[.agg #[.int .i64 vs, .slice a len cap, .slice a' len' cap'], .int .i64 (i : Int)] w fun e w' => BoolIs e (gnPart (xs.getD i gn0) i) ∧ Below w.heap.size w w' := by
  have K := CS.made w _ rfl #[.int .i64 vs, .slice a len cap, .slice a' len' cap'] 31
  have hB0 := old_alloc (Below.refl w.heap.size w) (.cells #[.int .i64 vs, .slice a len cap, .slice a' len' cap'] 31)
  obtain ⟨bl, off, k, u, v, n, s, rfl, hbl, hx, hf, c0, c1, c2, c3, c4⟩ := (hR.old hB0).at hi
  rw [hx]
  have heI : (0 : Int) ≤ (i : Int) := by omega
  have heJ : (i : Int) < (len : Int) := by omega
  have m1 := K.cell 1 _ rfl
  have OW := hd (iOwnGn k u v n s)
  have IP := hd (iPart k n s)
  have hle := hd (fun (h : k ≠ 13) => ac_le (x := ⟨k, n, s⟩) h)
  have GP : Hid (∀ c : Int, c = ac ⟨k, n, s⟩ → (gnPart ⟨k, u, v, n, s⟩ i ↔ (0 ≤ c ∧ k ≠ 2 ∧ k ≠ 13 ∧ ¬ (0 < c ∧ (u < 0 ∨ (i : Int) ≤ u) ∨ 1 < c ∧ (v < 0 ∨ (i : Int) ≤ v) ∨ c < 1 ∧ u ≠ 0 ∨ c < 2 ∧ v ≠ 0)))) := fun c h => by rw [h]; exact Iff.rfl
  obtain ⟨P, hP⟩ : ∃ P : Prop, P = gnPart ⟨k, u, v, n, s⟩ i := ⟨_, rfl⟩
  obtain ⟨c, hc⟩ : ∃ c, c = ac ⟨k, n, s⟩ := ⟨_, rfl⟩
  replace GP := hd (GP.out c hc)
  rw [← hP] at GP ⊢
  rw [← hc] at IP hle
  clear hP hc hx hR hf hbl hi
  go_enter Try.func19, Try.ntmps19
  go_upto_region 2 with fail
  have K1 := CS.made (w.alloc (.cells #[.int .i64 vs, .slice (some ⟨bl, off, none⟩) len cap, .slice a' len' cap'] 31)) (w.heap.size + 1) (by simp) #[.int .i64 k, .int .i64 u, .int .i64 v, .int .i64 n, .string s] 48
  have hB1 := old_alloc hB0 (.cells #[.int .i64 k, .int .i64 u, .int .i64 v, .int .i64 n, .string s] 48)
  generalize (w.alloc (.cells #[.int .i64 vs, .slice (some ⟨bl, off, none⟩) len cap, .slice a' len' cap'] 31)).alloc (.cells #[.int .i64 k, .int .i64 u, .int .i64 v, .int .i64 n, .string s] 48) = W1 at *
  clear K m1 c0 c1 c2 c3 c4
  have n0 := K1.cell 0 _ rfl
  have n1 := K1.cell 1 _ rfl
  have n2 := K1.cell 2 _ rfl
  have n3 := K1.cell 3 _ rfl
  have n4 := K1.cell 4 _ rfl
  go_wp2_with fail
  refine (OW.out _).mono ?_
  rintro e w2 ⟨rfl, hb2⟩
  replace K1 := K1.later hb2
  have hB2 := old_trans hB1 hb2
  clear n0 n1 n2 n3 n4 hb2 hB1 hB0
  go_wp2_with fail
  refine (IP.out _).mono ?_
  rintro e w3 ⟨⟨c', rfl, hcc⟩, hb3⟩
  replace K1 := K1.later hb3
  have hB := old_trans hB2 hb3
  clear hB2 hb3 IP OW
  have n0 := K1.cell 0 _ rfl
  have n1 := K1.cell 1 _ rfl
  have n2 := K1.cell 2 _ rfl
  replace hcc := hd hcc
  by_cases h0 : c < 0
  · have g0 : decide (0 ≤ c) = false := decide_eq_false (by omega)
    have no : Hid (¬ P) := fun h => by have := GP.out.1 h; omega
    go_wp2
    go_ret
    exact ⟨BoolIs.no no.out rfl, hB⟩
  have g0 : decide (0 ≤ c) = true := decide_eq_true (by omega)
  obtain rfl := hcc.out (by omega)
  by_cases h2 : k = 2
  · have g2 : (k == 2) = true := by rw [h2]; rfl
    have no : Hid (¬ P) := fun h => (GP.out.1 h).2.1 h2
    clear h2
    go_wp2
    go_ret
    exact ⟨BoolIs.no no.out rfl, hB⟩
  have g2 : (k == 2) = false := beq_eq_false_iff_ne.2 h2
  by_cases h3 : k = 13
  · have g3 : (k == 13) = true := by rw [h3]; rfl
    have no : Hid (¬ P) := fun h => (GP.out.1 h).2.2.1 h3
    clear h3
    go_wp2
    go_ret
    exact ⟨BoolIs.no no.out rfl, hB⟩
  have g3 : (k == 13) = false := beq_eq_false_iff_ne.2 h3
  have hc2 := hle.out h3
  by_cases hbad : (0 < c' ∧ (u < 0 ∨ (i : Int) ≤ u) ∨ 1 < c' ∧ (v < 0 ∨ (i : Int) ≤ v) ∨ c' < 1 ∧ u ≠ 0 ∨ c' < 2 ∧ v ≠ 0)
  · have no : Hid (¬ P) := fun h => (GP.out.1 h).2.2.2 hbad
    have hcase : (c' = 0 ∧ u ≠ 0) ∨ (c' = 0 ∧ u = 0 ∧ v ≠ 0) ∨ (c' = 1 ∧ u < 0) ∨ (c' = 1 ∧ 0 ≤ u ∧ (i : Int) ≤ u) ∨ (c' = 1 ∧ 0 ≤ u ∧ u < (i : Int) ∧ v ≠ 0) ∨ (c' = 2 ∧ u < 0) ∨ (c' = 2 ∧ 0 ≤ u ∧ (i : Int) ≤ u) ∨ (c' = 2 ∧ 0 ≤ u ∧ u < (i : Int) ∧ v < 0) ∨ (c' = 2 ∧ 0 ≤ u ∧ u < (i : Int) ∧ 0 ≤ v ∧ (i : Int) ≤ v) := by omega
    clear hbad GP hle h0 h2 h3 hc2 hcc
    rcases hcase with ⟨rfl, h⟩ | ⟨rfl, rfl, h⟩ | ⟨rfl, h⟩ | ⟨rfl, h, h'⟩ | ⟨rfl, h, h', h''⟩ | ⟨rfl, h⟩ | ⟨rfl, h, h'⟩ | ⟨rfl, h, h', h''⟩ | ⟨rfl, h, h', h'', h3⟩
    · have q : (u == 0) = false := beq_eq_false_iff_ne.2 h
      go_wp2
      refine wp_loop_rounds 1 ?_
      rw [rounds_succ]
      go_wp2
      go_ret
      exact ⟨BoolIs.no no.out (by first | rfl | (simp; done)), (by repeat (first | with_reducible exact hB | with_reducible exact Below.refl _ _ | with_reducible refine Below.drew ?_ | ((with_reducible refine Below.setCell ?_ ?_ _); rotate_left; (focus (first | (simp; done) | omega | (simp; omega)))) | with_reducible refine old_alloc ?_ _ | with_reducible refine old_trans ?_ (by with_reducible assumption)))⟩
    · have q : (v == 0) = false := beq_eq_false_iff_ne.2 h
      go_wp2
      refine wp_loop_rounds 2 ?_
      rw [rounds_succ]
      go_wp2
      rw [rounds_succ]
      go_wp2
      go_ret
      exact ⟨BoolIs.no no.out (by first | rfl | (simp; done)), (by repeat (first | with_reducible exact hB | with_reducible exact Below.refl _ _ | with_reducible refine Below.drew ?_ | ((with_reducible refine Below.setCell ?_ ?_ _); rotate_left; (focus (first | (simp; done) | omega | (simp; omega)))) | with_reducible refine old_alloc ?_ _ | with_reducible refine old_trans ?_ (by with_reducible assumption)))⟩
    · have q1 : decide (u < 0) = true := decide_eq_true (by omega)
      go_wp2
      refine wp_loop_rounds 1 ?_
      rw [rounds_succ]
      go_wp2
      go_ret
      exact ⟨BoolIs.no no.out (by first | rfl | (simp; done)), (by repeat (first | with_reducible exact hB | with_reducible exact Below.refl _ _ | with_reducible refine Below.drew ?_ | ((with_reducible refine Below.setCell ?_ ?_ _); rotate_left; (focus (first | (simp; done) | omega | (simp; omega)))) | with_reducible refine old_alloc ?_ _ | with_reducible refine old_trans ?_ (by with_reducible assumption)))⟩
    · have q1 : decide (u < 0) = false := decide_eq_false (by omega)
      have q2 : decide ((i : Int) ≤ u) = true := decide_eq_true (by omega)
      go_wp2
      refine wp_loop_rounds 1 ?_
      rw [rounds_succ]
      go_wp2
      go_ret
      exact ⟨BoolIs.no no.out (by first | rfl | (simp; done)), (by repeat (first | with_reducible exact hB | with_reducible exact Below.refl _ _ | with_reducible refine Below.drew ?_ | ((with_reducible refine Below.setCell ?_ ?_ _); rotate_left; (focus (first | (simp; done) | omega | (simp; omega)))) | with_reducible refine old_alloc ?_ _ | with_reducible refine old_trans ?_ (by with_reducible assumption)))⟩
    · have q1 : decide (u < 0) = false := decide_eq_false (by omega)
      have q2 : decide ((i : Int) ≤ u) = false := decide_eq_false (by omega)
      have q : (v == 0) = false := beq_eq_false_iff_ne.2 h''
      go_wp2
      refine wp_loop_rounds 2 ?_
      rw [rounds_succ]
      go_wp2
      rw [rounds_succ]
      go_wp2
      go_ret
      exact ⟨BoolIs.no no.out (by first | rfl | (simp; done)), (by repeat (first | with_reducible exact hB | with_reducible exact Below.refl _ _ | with_reducible refine Below.drew ?_ | ((with_reducible refine Below.setCell ?_ ?_ _); rotate_left; (focus (first | (simp; done) | omega | (simp; omega)))) | with_reducible refine old_alloc ?_ _ | with_reducible refine old_trans ?_ (by with_reducible assumption)))⟩
    · have q1 : decide (u < 0) = true := decide_eq_true (by omega)
      go_wp2
      refine wp_loop_rounds 1 ?_
      rw [rounds_succ]
      go_wp2
      go_ret
      exact ⟨BoolIs.no no.out (by first | rfl | (simp; done)), (by repeat (first | with_reducible exact hB | with_reducible exact Below.refl _ _ | with_reducible refine Below.drew ?_ | ((with_reducible refine Below.setCell ?_ ?_ _); rotate_left; (focus (first | (simp; done) | omega | (simp; omega)))) | with_reducible refine old_alloc ?_ _ | with_reducible refine old_trans ?_ (by with_reducible assumption)))⟩
    · have q1 : decide (u < 0) = false := decide_eq_false (by omega)
      have q2 : decide ((i : Int) ≤ u) = true := decide_eq_true (by omega)
      go_wp2
      refine wp_loop_rounds 1 ?_
      rw [rounds_succ]
      go_wp2
      go_ret
      exact ⟨BoolIs.no no.out (by first | rfl | (simp; done)), (by repeat (first | with_reducible exact hB | with_reducible exact Below.refl _ _ | with_reducible refine Below.drew ?_ | ((with_reducible refine Below.setCell ?_ ?_ _); rotate_left; (focus (first | (simp; done) | omega | (simp; omega)))) | with_reducible refine old_alloc ?_ _ | with_reducible refine old_trans ?_ (by with_reducible assumption)))⟩
    · have q1 : decide (u < 0) = false := decide_eq_false (by omega)
      have q2 : decide ((i : Int) ≤ u) = false := decide_eq_false (by omega)
      have q3 : decide (v < 0) = true := decide_eq_true (by omega)
      go_wp2
      refine wp_loop_rounds 2 ?_
      rw [rounds_succ]
      go_wp2
      rw [rounds_succ]
      go_wp2
      go_ret
      exact ⟨BoolIs.no no.out (by first | rfl | (simp; done)), (by repeat (first | with_reducible exact hB | with_reducible exact Below.refl _ _ | with_reducible refine Below.drew ?_ | ((with_reducible refine Below.setCell ?_ ?_ _); rotate_left; (focus (first | (simp; done) | omega | (simp; omega)))) | with_reducible refine old_alloc ?_ _ | with_reducible refine old_trans ?_ (by with_reducible assumption)))⟩
    · have q1 : decide (u < 0) = false := decide_eq_false (by omega)
      have q2 : decide ((i : Int) ≤ u) = false := decide_eq_false (by omega)
      have q3 : decide (v < 0) = false := decide_eq_false (by omega)
      have q4 : decide ((i : Int) ≤ v) = true := decide_eq_true (by omega)
      go_wp2
      refine wp_loop_rounds 2 ?_
      rw [rounds_succ]
      go_wp2
      rw [rounds_succ]
      go_wp2
      go_ret
      exact ⟨BoolIs.no no.out (by first | rfl | (simp; done)), (by repeat (first | with_reducible exact hB | with_reducible exact Below.refl _ _ | with_reducible refine Below.drew ?_ | ((with_reducible refine Below.setCell ?_ ?_ _); rotate_left; (focus (first | (simp; done) | omega | (simp; omega)))) | with_reducible refine old_alloc ?_ _ | with_reducible refine old_trans ?_ (by with_reducible assumption)))⟩
  have yes : Hid P := GP.out.2 ⟨by omega, h2, h3, hbad⟩
  have hcase : (c' = 0 ∧ u = 0 ∧ v = 0) ∨ (c' = 1 ∧ 0 ≤ u ∧ u < (i : Int) ∧ v = 0) ∨ (c' = 2 ∧ 0 ≤ u ∧ u < (i : Int) ∧ 0 ≤ v ∧ v < (i : Int)) := by omega
  clear hbad GP hle h0 h2 h3 hc2 hcc
  rcases hcase with ⟨rfl, rfl, rfl⟩ | ⟨rfl, h, h', rfl⟩ | ⟨rfl, h, h', h2, h3⟩
  · skip
    go_wp2
    refine wp_loop_rounds 3 ?_
    rw [rounds_succ]
    go_wp2
    rw [rounds_succ]
    go_wp2
    rw [rounds_succ]
    go_wp2
    go_ret
    exact ⟨BoolIs.yes yes.out (by first | rfl | (simp; done)), (by repeat (first | with_reducible exact hB | with_reducible exact Below.refl _ _ | with_reducible refine Below.drew ?_ | ((with_reducible refine Below.setCell ?_ ?_ _); rotate_left; (focus (first | (simp; done) | omega | (simp; omega)))) | with_reducible refine old_alloc ?_ _ | with_reducible refine old_trans ?_ (by with_reducible assumption)))⟩
  · have q1 : decide (u < 0) = false := decide_eq_false (by omega)
    have q2 : decide ((i : Int) ≤ u) = false := decide_eq_false (by omega)
    go_wp2
    refine wp_loop_rounds 3 ?_
    rw [rounds_succ]
    go_wp2
    rw [rounds_succ]
    go_wp2
    rw [rounds_succ]
    go_wp2
    go_ret
    exact ⟨BoolIs.yes yes.out (by first | rfl | (simp; done)), (by repeat (first | with_reducible exact hB | with_reducible exact Below.refl _ _ | with_reducible refine Below.drew ?_ | ((with_reducible refine Below.setCell ?_ ?_ _); rotate_left; (focus (first | (simp; done) | omega | (simp; omega)))) | with_reducible refine old_alloc ?_ _ | with_reducible refine old_trans ?_ (by with_reducible assumption)))⟩
  · have q1 : decide (u < 0) = false := decide_eq_false (by omega)
    have q2 : decide ((i : Int) ≤ u) = false := decide_eq_false (by omega)
    have q3 : decide (v < 0) = false := decide_eq_false (by omega)
    have q4 : decide ((i : Int) ≤ v) = false := decide_eq_false (by omega)
    go_wp2
    refine wp_loop_rounds 3 ?_
    rw [rounds_succ]
    go_wp2
    rw [rounds_succ]
    go_wp2
    rw [rounds_succ]
    go_wp2
    go_ret
    exact ⟨BoolIs.yes yes.out (by first | rfl | (simp; done)), (by repeat (first | with_reducible exact hB | with_reducible exact Below.refl _ _ | with_reducible refine Below.drew ?_ | ((with_reducible refine Below.setCell ?_ ?_ _); rotate_left; (focus (first | (simp; done) | omega | (simp; omega)))) | with_reducible refine old_alloc ?_ _ | with_reducible refine old_trans ?_ (by with_reducible assumption)))⟩
end Go.Proofs.Ythddfklfojdhdaa
