/- Limits of a graph, variables and made nodes of it, by the program. Nothing that was there is written. No condition but that the graph is there. -/
import Derived.Test.YtmpckbgelkfgpaaPK12
import Derived.Test.YtmpckbgelkfgpaaPK11
import Derived.Deep.RegionWith
import Derived.Test.YtmpckbgelkfgpaaPK03
namespace Go.Proofs.Ytmpckbgelkfgpaa
open Go.RowKit
set_option linter.unusedVariables false
set_option maxRecDepth 100000

set_option maxHeartbeats 4000000 in
theorem iLim (vs : Int) (a : Option Addr) (len cap : Nat) (xs : List Gn) (a' : Option Addr) (len' cap' : Nat) (w : World) :
    Calls Try.prog 114 #[.agg #[.int .i64 vs, .slice a len cap, .slice a' len' cap']] w fun e w' => BoolIs e (gLim vs len len') ∧ Below w.heap.size w w' := by
  have K := CS.made w _ rfl #[.int .i64 vs, .slice a len cap, .slice a' len' cap'] 71
  have hB := old_alloc (Below.refl w.heap.size w) (.cells #[.int .i64 vs, .slice a len cap, .slice a' len' cap'] 71)
  have m0 := K.cell 0 _ rfl
  have m1 := K.cell 1 _ rfl
  have m2 := K.cell 2 _ rfl
  have hcase : (¬ gLim vs len len' ∧ (vs < 1 ∨ (1 ≤ vs ∧ (len : Int) < vs) ∨ (1 ≤ vs ∧ vs ≤ (len : Int) ∧ (len' : Int) < 1) ∨ (1 ≤ vs ∧ vs ≤ (len : Int) ∧ 1 ≤ (len' : Int) ∧ 6 < vs) ∨ (1 ≤ vs ∧ vs ≤ (len : Int) ∧ 1 ≤ (len' : Int) ∧ vs ≤ 6 ∧ 120 < (len : Int)) ∨ (1 ≤ vs ∧ vs ≤ (len : Int) ∧ 1 ≤ (len' : Int) ∧ vs ≤ 6 ∧ (len : Int) ≤ 120 ∧ 12 < (len' : Int)))) ∨ (gLim vs len len' ∧ (1 ≤ vs ∧ vs ≤ (len : Int) ∧ 1 ≤ (len' : Int) ∧ vs ≤ 6 ∧ (len : Int) ≤ 120 ∧ (len' : Int) ≤ 12)) := by
    unfold gLim
    omega
  rcases hcase with ⟨no, hcase⟩ | ⟨yes, h⟩
  · replace no := hd no
    rcases hcase with h | h | h | h | h | h
    · have q0 : decide (1 ≤ vs) = false := decide_eq_false (by omega)
      clear h
      go_enter Try.func114, Try.ntmps114
      go_wp2
      go_ret
      exact ⟨BoolIs.no no.out (by first | rfl | (simp; done) | (simp; omega)), hB⟩
    · have q0 : decide (1 ≤ vs) = true := decide_eq_true (by omega)
      have q1 : decide (vs ≤ (len : Int)) = false := decide_eq_false (by omega)
      clear h
      go_enter Try.func114, Try.ntmps114
      go_wp2
      go_ret
      exact ⟨BoolIs.no no.out (by first | rfl | (simp; done) | (simp; omega)), hB⟩
    · have q0 : decide (1 ≤ vs) = true := decide_eq_true (by omega)
      have q1 : decide (vs ≤ (len : Int)) = true := decide_eq_true (by omega)
      have q2 : decide (1 ≤ (len' : Int)) = false := decide_eq_false (by omega)
      clear h
      go_enter Try.func114, Try.ntmps114
      go_wp2
      go_ret
      exact ⟨BoolIs.no no.out (by first | rfl | (simp; done) | (simp; omega)), hB⟩
    · have q0 : decide (1 ≤ vs) = true := decide_eq_true (by omega)
      have q1 : decide (vs ≤ (len : Int)) = true := decide_eq_true (by omega)
      have q2 : decide (1 ≤ (len' : Int)) = true := decide_eq_true (by omega)
      have q3 : decide (vs ≤ 6) = false := decide_eq_false (by omega)
      clear h
      go_enter Try.func114, Try.ntmps114
      go_wp2
      go_ret
      exact ⟨BoolIs.no no.out (by first | rfl | (simp; done) | (simp; omega)), hB⟩
    · have q0 : decide (1 ≤ vs) = true := decide_eq_true (by omega)
      have q1 : decide (vs ≤ (len : Int)) = true := decide_eq_true (by omega)
      have q2 : decide (1 ≤ (len' : Int)) = true := decide_eq_true (by omega)
      have q3 : decide (vs ≤ 6) = true := decide_eq_true (by omega)
      have q4 : decide ((len : Int) ≤ 120) = false := decide_eq_false (by omega)
      clear h
      go_enter Try.func114, Try.ntmps114
      go_wp2
      go_ret
      exact ⟨BoolIs.no no.out (by first | rfl | (simp; done) | (simp; omega)), hB⟩
    · have q0 : decide (1 ≤ vs) = true := decide_eq_true (by omega)
      have q1 : decide (vs ≤ (len : Int)) = true := decide_eq_true (by omega)
      have q2 : decide (1 ≤ (len' : Int)) = true := decide_eq_true (by omega)
      have q3 : decide (vs ≤ 6) = true := decide_eq_true (by omega)
      have q4 : decide ((len : Int) ≤ 120) = true := decide_eq_true (by omega)
      have q5 : decide ((len' : Int) ≤ 12) = false := decide_eq_false (by omega)
      clear h
      go_enter Try.func114, Try.ntmps114
      go_wp2
      go_ret
      exact ⟨BoolIs.no no.out (by first | rfl | (simp; done) | (simp; omega)), hB⟩
  · replace yes := hd yes
    have q0 : decide (1 ≤ vs) = true := decide_eq_true (by omega)
    have q1 : decide (vs ≤ (len : Int)) = true := decide_eq_true (by omega)
    have q2 : decide (1 ≤ (len' : Int)) = true := decide_eq_true (by omega)
    have q3 : decide (vs ≤ 6) = true := decide_eq_true (by omega)
    have q4 : decide ((len : Int) ≤ 120) = true := decide_eq_true (by omega)
    have q5 : decide ((len' : Int) ≤ 12) = true := decide_eq_true (by omega)
    clear h
    go_enter Try.func114, Try.ntmps114
    go_wp2
    go_ret
    exact ⟨BoolIs.yes yes.out (by first | rfl | (simp; done) | (simp; omega)), hB⟩
set_option maxRecDepth 100000 in
set_option maxHeartbeats 4000000 in
theorem iVar (vs : Int) (a : Option Addr) (len cap : Nat) (xs : List Gn) (a' : Option Addr) (len' cap' : Nat) (i : Nat) (w : World) (hR : InGn w a len cap xs) (hi : i < len) :
    Calls Try.prog 117 #[.agg #[.int .i64 vs, .slice a len cap, .slice a' len' cap'], .int .i64 (i : Int)] w fun e w' => BoolIs e (xs.getD i gn0 = gvar i) ∧ Below w.heap.size w w' := by
  have K := CS.made w _ rfl #[.int .i64 vs, .slice a len cap, .slice a' len' cap'] 71
  have hB0 := old_alloc (Below.refl w.heap.size w) (.cells #[.int .i64 vs, .slice a len cap, .slice a' len' cap'] 71)
  obtain ⟨bl, off, k, u, v, n, s, rfl, hbl, hx, hf, c0, c1, c2, c3, c4⟩ := (hR.old hB0).at hi
  rw [hx]
  have heI : (0 : Int) ≤ (i : Int) := by omega
  have heJ : (i : Int) < (len : Int) := by omega
  have m1 := K.cell 1 _ rfl
  clear hR hx hf hbl hi
  by_cases e0 : k = 2
  case neg =>
    have g0 : (k == 2) = false := beq_eq_false_iff_ne.2 e0
    go_enter Try.func117, Try.ntmps117
    go_wp2
    go_ret
    exact ⟨BoolIs.no (by simp [gvar, e0]) rfl, (by repeat (first | with_reducible exact Below.refl _ _ | with_reducible refine Below.drew ?_ | ((with_reducible refine Below.setCell ?_ ?_ _); rotate_left; (focus (first | (simp; done) | omega | (simp; omega)))) | with_reducible refine old_alloc ?_ _ | with_reducible refine old_trans ?_ (by with_reducible assumption)))⟩
  subst e0
  by_cases e1 : u = 0
  case neg =>
    have g0 : (u == 0) = false := beq_eq_false_iff_ne.2 e1
    go_enter Try.func117, Try.ntmps117
    go_wp2
    go_ret
    exact ⟨BoolIs.no (by simp [gvar, e1]) rfl, (by repeat (first | with_reducible exact Below.refl _ _ | with_reducible refine Below.drew ?_ | ((with_reducible refine Below.setCell ?_ ?_ _); rotate_left; (focus (first | (simp; done) | omega | (simp; omega)))) | with_reducible refine old_alloc ?_ _ | with_reducible refine old_trans ?_ (by with_reducible assumption)))⟩
  subst e1
  by_cases e2 : v = 0
  case neg =>
    have g0 : (v == 0) = false := beq_eq_false_iff_ne.2 e2
    go_enter Try.func117, Try.ntmps117
    go_wp2
    go_ret
    exact ⟨BoolIs.no (by simp [gvar, e2]) rfl, (by repeat (first | with_reducible exact Below.refl _ _ | with_reducible refine Below.drew ?_ | ((with_reducible refine Below.setCell ?_ ?_ _); rotate_left; (focus (first | (simp; done) | omega | (simp; omega)))) | with_reducible refine old_alloc ?_ _ | with_reducible refine old_trans ?_ (by with_reducible assumption)))⟩
  subst e2
  by_cases e3 : n = (i : Int)
  case neg =>
    have g0 : (n == (i : Int)) = false := beq_eq_false_iff_ne.2 e3
    go_enter Try.func117, Try.ntmps117
    go_wp2
    go_ret
    exact ⟨BoolIs.no (by simp [gvar, e3]) rfl, (by repeat (first | with_reducible exact Below.refl _ _ | with_reducible refine Below.drew ?_ | ((with_reducible refine Below.setCell ?_ ?_ _); rotate_left; (focus (first | (simp; done) | omega | (simp; omega)))) | with_reducible refine old_alloc ?_ _ | with_reducible refine old_trans ?_ (by with_reducible assumption)))⟩
  subst e3
  by_cases e4 : s.size = 0
  case neg =>
    have ne := nonempty (s := s) (by omega)
    have nn := not_nil e4
    go_enter Try.func117, Try.ntmps117
    go_wp2
    go_ret
    exact ⟨BoolIs.no (by simp [gvar, nn]) rfl, (by repeat (first | with_reducible exact Below.refl _ _ | with_reducible refine Below.drew ?_ | ((with_reducible refine Below.setCell ?_ ?_ _); rotate_left; (focus (first | (simp; done) | omega | (simp; omega)))) | with_reducible refine old_alloc ?_ _ | with_reducible refine old_trans ?_ (by with_reducible assumption)))⟩
  obtain rfl := size_nil e4
  go_enter Try.func117, Try.ntmps117
  go_wp2
  go_ret
  exact ⟨BoolIs.yes (by simp [gvar]) rfl, (by repeat (first | with_reducible exact Below.refl _ _ | with_reducible refine Below.drew ?_ | ((with_reducible refine Below.setCell ?_ ?_ _); rotate_left; (focus (first | (simp; done) | omega | (simp; omega)))) | with_reducible refine old_alloc ?_ _ | with_reducible refine old_trans ?_ (by with_reducible assumption)))⟩
set_option maxHeartbeats 1000000 in
theorem iOwnGn (k u v n : Int) (s : ByteArray) (w : World) :
    Calls Try.prog 124 #[.agg #[.int .i64 k, .int .i64 u, .int .i64 v, .int .i64 n, .string s]] w fun e w' => e = .returned (.agg #[.int .i64 k, .int .i64 n, .string s]) ∧ Below w.heap.size w w' := by
  go_enter Try.func124, Try.ntmps124
  go_wp2
  refine bodyPost_ret (v := .agg #[.int .i64 k, .int .i64 n, .string s]) ?_ rfl ⟨rfl, (by repeat (first | with_reducible exact Below.refl _ _ | with_reducible refine Below.drew ?_ | ((with_reducible refine Below.setCell ?_ ?_ _); rotate_left; (focus (first | (simp; done) | omega | (simp; omega)))) | with_reducible refine old_alloc ?_ _ | with_reducible refine old_trans ?_ (by with_reducible assumption)))⟩
  simp [results, Try.results124, go_sem]
set_option maxRecDepth 100000 in
set_option maxHeartbeats 8000000 in
theorem iMade (vs : Int) (a : Option Addr) (len cap : Nat) (xs : List Gn) (a' : Option Addr) (len' cap' : Nat) (i : Nat) (w : World) (hR : InGn w a len cap xs) (hi : i < len) :
    Calls Try.prog 118 #[.agg #[.int .i64 vs, .slice a len cap, .slice a' len' cap'], .int .i64 (i : Int)] w fun e w' => BoolIs e (gnPart (xs.getD i gn0) i) ∧ Below w.heap.size w w' := by
  have K := CS.made w _ rfl #[.int .i64 vs, .slice a len cap, .slice a' len' cap'] 71
  have hB0 := old_alloc (Below.refl w.heap.size w) (.cells #[.int .i64 vs, .slice a len cap, .slice a' len' cap'] 71)
  obtain ⟨bl, off, k, u, v, n, s, rfl, hbl, hx, hf, c0, c1, c2, c3, c4⟩ := (hR.old hB0).at hi
  rw [hx]
  have heI : (0 : Int) ≤ (i : Int) := by omega
  have heJ : (i : Int) < (len : Int) := by omega
  have m1 := K.cell 1 _ rfl
  have OW := hd (iOwnGn k u v n s)
  have IP := hd (iPart k n s)
  have hle := hd (fun (h : k ≠ 13) => ac_le (x := ⟨k, n, s⟩) h)
  have GP : Hid (∀ c : Int, c = ac ⟨k, n, s⟩ → (gnPart ⟨k, u, v, n, s⟩ i ↔ (0 ≤ c ∧ k ≠ 2 ∧ k ≠ 13 ∧ ¬ (0 < c ∧ (u < 0 ∨ (i : Int) ≤ u) ∨ 1 < c ∧ (v < 0 ∨ (i : Int) ≤ v) ∨ c < 1 ∧ u ≠ 0 ∨ c < 2 ∧ v ≠ 0)))) := fun c h => by rw [h]; exact Iff.rfl
  obtain ⟨P, hP⟩ : ∃ P : Prop, P = gnPart ⟨k, u, v, n, s⟩ i := ⟨_, rfl⟩
  obtain ⟨c, hc⟩ : ∃ c, c = ac ⟨k, n, s⟩ := ⟨_, rfl⟩
  replace GP := hd (GP.out c hc)
  rw [← hP] at GP ⊢
  rw [← hc] at IP hle
  clear hP hc hx hR hf hbl hi
  go_enter Try.func118, Try.ntmps118
  go_upto_region 2 with fail
  have K1 := CS.made (w.alloc (.cells #[.int .i64 vs, .slice (some ⟨bl, off, none⟩) len cap, .slice a' len' cap'] 71)) (w.heap.size + 1) (by simp) #[.int .i64 k, .int .i64 u, .int .i64 v, .int .i64 n, .string s] 149
  have hB1 := old_alloc hB0 (.cells #[.int .i64 k, .int .i64 u, .int .i64 v, .int .i64 n, .string s] 149)
  generalize (w.alloc (.cells #[.int .i64 vs, .slice (some ⟨bl, off, none⟩) len cap, .slice a' len' cap'] 71)).alloc (.cells #[.int .i64 k, .int .i64 u, .int .i64 v, .int .i64 n, .string s] 149) = W1 at *
  clear K m1 c0 c1 c2 c3 c4
  have n0 := K1.cell 0 _ rfl
  have n1 := K1.cell 1 _ rfl
  have n2 := K1.cell 2 _ rfl
  have n3 := K1.cell 3 _ rfl
  have n4 := K1.cell 4 _ rfl
  go_wp2_with fail
  refine (OW.out _).mono ?_
  rintro e w2 ⟨rfl, hb2⟩
  replace K1 := K1.later hb2
  have hB2 := old_trans hB1 hb2
  clear n0 n1 n2 n3 n4 hb2 hB1 hB0
  go_wp2_with fail
  refine (IP.out _).mono ?_
  rintro e w3 ⟨⟨c', rfl, hcc⟩, hb3⟩
  replace K1 := K1.later hb3
  have hB := old_trans hB2 hb3
  clear hB2 hb3 IP OW
  have n0 := K1.cell 0 _ rfl
  have n1 := K1.cell 1 _ rfl
  have n2 := K1.cell 2 _ rfl
  replace hcc := hd hcc
  by_cases h0 : c < 0
  · have g0 : decide (0 ≤ c) = false := decide_eq_false (by omega)
    have no : Hid (¬ P) := fun h => by have := GP.out.1 h; omega
    go_wp2
    go_ret
    exact ⟨BoolIs.no no.out rfl, hB⟩
  have g0 : decide (0 ≤ c) = true := decide_eq_true (by omega)
  obtain rfl := hcc.out (by omega)
  by_cases h2 : k = 2
  · have g2 : (k == 2) = true := by rw [h2]; rfl
    have no : Hid (¬ P) := fun h => (GP.out.1 h).2.1 h2
    clear h2
    go_wp2
    go_ret
    exact ⟨BoolIs.no no.out rfl, hB⟩
  have g2 : (k == 2) = false := beq_eq_false_iff_ne.2 h2
  by_cases h3 : k = 13
  · have g3 : (k == 13) = true := by rw [h3]; rfl
    have no : Hid (¬ P) := fun h => (GP.out.1 h).2.2.1 h3
    clear h3
    go_wp2
    go_ret
    exact ⟨BoolIs.no no.out rfl, hB⟩
  have g3 : (k == 13) = false := beq_eq_false_iff_ne.2 h3
  have hc2 := hle.out h3
  by_cases hbad : (0 < c' ∧ (u < 0 ∨ (i : Int) ≤ u) ∨ 1 < c' ∧ (v < 0 ∨ (i : Int) ≤ v) ∨ c' < 1 ∧ u ≠ 0 ∨ c' < 2 ∧ v ≠ 0)
  · have no : Hid (¬ P) := fun h => (GP.out.1 h).2.2.2 hbad
    have hcase : (c' = 0 ∧ u ≠ 0) ∨ (c' = 0 ∧ u = 0 ∧ v ≠ 0) ∨ (c' = 1 ∧ u < 0) ∨ (c' = 1 ∧ 0 ≤ u ∧ (i : Int) ≤ u) ∨ (c' = 1 ∧ 0 ≤ u ∧ u < (i : Int) ∧ v ≠ 0) ∨ (c' = 2 ∧ u < 0) ∨ (c' = 2 ∧ 0 ≤ u ∧ (i : Int) ≤ u) ∨ (c' = 2 ∧ 0 ≤ u ∧ u < (i : Int) ∧ v < 0) ∨ (c' = 2 ∧ 0 ≤ u ∧ u < (i : Int) ∧ 0 ≤ v ∧ (i : Int) ≤ v) := by omega
    clear hbad GP hle h0 h2 h3 hc2 hcc
    rcases hcase with ⟨rfl, h⟩ | ⟨rfl, rfl, h⟩ | ⟨rfl, h⟩ | ⟨rfl, h, h'⟩ | ⟨rfl, h, h', h''⟩ | ⟨rfl, h⟩ | ⟨rfl, h, h'⟩ | ⟨rfl, h, h', h''⟩ | ⟨rfl, h, h', h'', h3⟩
    · have q : (u == 0) = false := beq_eq_false_iff_ne.2 h
      go_wp2
      refine wp_loop_rounds 1 ?_
      rw [rounds_succ]
      go_wp2
      go_ret
      exact ⟨BoolIs.no no.out (by first | rfl | (simp; done)), (by repeat (first | with_reducible exact hB | with_reducible exact Below.refl _ _ | with_reducible refine Below.drew ?_ | ((with_reducible refine Below.setCell ?_ ?_ _); rotate_left; (focus (first | (simp; done) | omega | (simp; omega)))) | with_reducible refine old_alloc ?_ _ | with_reducible refine old_trans ?_ (by with_reducible assumption)))⟩
    · have q : (v == 0) = false := beq_eq_false_iff_ne.2 h
      go_wp2
      refine wp_loop_rounds 2 ?_
      rw [rounds_succ]
      go_wp2
      rw [rounds_succ]
      go_wp2
      go_ret
      exact ⟨BoolIs.no no.out (by first | rfl | (simp; done)), (by repeat (first | with_reducible exact hB | with_reducible exact Below.refl _ _ | with_reducible refine Below.drew ?_ | ((with_reducible refine Below.setCell ?_ ?_ _); rotate_left; (focus (first | (simp; done) | omega | (simp; omega)))) | with_reducible refine old_alloc ?_ _ | with_reducible refine old_trans ?_ (by with_reducible assumption)))⟩
    · have q1 : decide (u < 0) = true := decide_eq_true (by omega)
      go_wp2
      refine wp_loop_rounds 1 ?_
      rw [rounds_succ]
      go_wp2
      go_ret
      exact ⟨BoolIs.no no.out (by first | rfl | (simp; done)), (by repeat (first | with_reducible exact hB | with_reducible exact Below.refl _ _ | with_reducible refine Below.drew ?_ | ((with_reducible refine Below.setCell ?_ ?_ _); rotate_left; (focus (first | (simp; done) | omega | (simp; omega)))) | with_reducible refine old_alloc ?_ _ | with_reducible refine old_trans ?_ (by with_reducible assumption)))⟩
    · have q1 : decide (u < 0) = false := decide_eq_false (by omega)
      have q2 : decide ((i : Int) ≤ u) = true := decide_eq_true (by omega)
      go_wp2
      refine wp_loop_rounds 1 ?_
      rw [rounds_succ]
      go_wp2
      go_ret
      exact ⟨BoolIs.no no.out (by first | rfl | (simp; done)), (by repeat (first | with_reducible exact hB | with_reducible exact Below.refl _ _ | with_reducible refine Below.drew ?_ | ((with_reducible refine Below.setCell ?_ ?_ _); rotate_left; (focus (first | (simp; done) | omega | (simp; omega)))) | with_reducible refine old_alloc ?_ _ | with_reducible refine old_trans ?_ (by with_reducible assumption)))⟩
    · have q1 : decide (u < 0) = false := decide_eq_false (by omega)
      have q2 : decide ((i : Int) ≤ u) = false := decide_eq_false (by omega)
      have q : (v == 0) = false := beq_eq_false_iff_ne.2 h''
      go_wp2
      refine wp_loop_rounds 2 ?_
      rw [rounds_succ]
      go_wp2
      rw [rounds_succ]
      go_wp2
      go_ret
      exact ⟨BoolIs.no no.out (by first | rfl | (simp; done)), (by repeat (first | with_reducible exact hB | with_reducible exact Below.refl _ _ | with_reducible refine Below.drew ?_ | ((with_reducible refine Below.setCell ?_ ?_ _); rotate_left; (focus (first | (simp; done) | omega | (simp; omega)))) | with_reducible refine old_alloc ?_ _ | with_reducible refine old_trans ?_ (by with_reducible assumption)))⟩
    · have q1 : decide (u < 0) = true := decide_eq_true (by omega)
      go_wp2
      refine wp_loop_rounds 1 ?_
      rw [rounds_succ]
      go_wp2
      go_ret
      exact ⟨BoolIs.no no.out (by first | rfl | (simp; done)), (by repeat (first | with_reducible exact hB | with_reducible exact Below.refl _ _ | with_reducible refine Below.drew ?_ | ((with_reducible refine Below.setCell ?_ ?_ _); rotate_left; (focus (first | (simp; done) | omega | (simp; omega)))) | with_reducible refine old_alloc ?_ _ | with_reducible refine old_trans ?_ (by with_reducible assumption)))⟩
    · have q1 : decide (u < 0) = false := decide_eq_false (by omega)
      have q2 : decide ((i : Int) ≤ u) = true := decide_eq_true (by omega)
      go_wp2
      refine wp_loop_rounds 1 ?_
      rw [rounds_succ]
      go_wp2
      go_ret
      exact ⟨BoolIs.no no.out (by first | rfl | (simp; done)), (by repeat (first | with_reducible exact hB | with_reducible exact Below.refl _ _ | with_reducible refine Below.drew ?_ | ((with_reducible refine Below.setCell ?_ ?_ _); rotate_left; (focus (first | (simp; done) | omega | (simp; omega)))) | with_reducible refine old_alloc ?_ _ | with_reducible refine old_trans ?_ (by with_reducible assumption)))⟩
    · have q1 : decide (u < 0) = false := decide_eq_false (by omega)
      have q2 : decide ((i : Int) ≤ u) = false := decide_eq_false (by omega)
      have q3 : decide (v < 0) = true := decide_eq_true (by omega)
      go_wp2
      refine wp_loop_rounds 2 ?_
      rw [rounds_succ]
      go_wp2
      rw [rounds_succ]
      go_wp2
      go_ret
      exact ⟨BoolIs.no no.out (by first | rfl | (simp; done)), (by repeat (first | with_reducible exact hB | with_reducible exact Below.refl _ _ | with_reducible refine Below.drew ?_ | ((with_reducible refine Below.setCell ?_ ?_ _); rotate_left; (focus (first | (simp; done) | omega | (simp; omega)))) | with_reducible refine old_alloc ?_ _ | with_reducible refine old_trans ?_ (by with_reducible assumption)))⟩
    · have q1 : decide (u < 0) = false := decide_eq_false (by omega)
      have q2 : decide ((i : Int) ≤ u) = false := decide_eq_false (by omega)
      have q3 : decide (v < 0) = false := decide_eq_false (by omega)
      have q4 : decide ((i : Int) ≤ v) = true := decide_eq_true (by omega)
      go_wp2
      refine wp_loop_rounds 2 ?_
      rw [rounds_succ]
      go_wp2
      rw [rounds_succ]
      go_wp2
      go_ret
      exact ⟨BoolIs.no no.out (by first | rfl | (simp; done)), (by repeat (first | with_reducible exact hB | with_reducible exact Below.refl _ _ | with_reducible refine Below.drew ?_ | ((with_reducible refine Below.setCell ?_ ?_ _); rotate_left; (focus (first | (simp; done) | omega | (simp; omega)))) | with_reducible refine old_alloc ?_ _ | with_reducible refine old_trans ?_ (by with_reducible assumption)))⟩
  have yes : Hid P := GP.out.2 ⟨by omega, h2, h3, hbad⟩
  have hcase : (c' = 0 ∧ u = 0 ∧ v = 0) ∨ (c' = 1 ∧ 0 ≤ u ∧ u < (i : Int) ∧ v = 0) ∨ (c' = 2 ∧ 0 ≤ u ∧ u < (i : Int) ∧ 0 ≤ v ∧ v < (i : Int)) := by omega
  clear hbad GP hle h0 h2 h3 hc2 hcc
  rcases hcase with ⟨rfl, rfl, rfl⟩ | ⟨rfl, h, h', rfl⟩ | ⟨rfl, h, h', h2, h3⟩
  · skip
    go_wp2
    refine wp_loop_rounds 3 ?_
    rw [rounds_succ]
    go_wp2
    rw [rounds_succ]
    go_wp2
    rw [rounds_succ]
    go_wp2
    go_ret
    exact ⟨BoolIs.yes yes.out (by first | rfl | (simp; done)), (by repeat (first | with_reducible exact hB | with_reducible exact Below.refl _ _ | with_reducible refine Below.drew ?_ | ((with_reducible refine Below.setCell ?_ ?_ _); rotate_left; (focus (first | (simp; done) | omega | (simp; omega)))) | with_reducible refine old_alloc ?_ _ | with_reducible refine old_trans ?_ (by with_reducible assumption)))⟩
  · have q1 : decide (u < 0) = false := decide_eq_false (by omega)
    have q2 : decide ((i : Int) ≤ u) = false := decide_eq_false (by omega)
    go_wp2
    refine wp_loop_rounds 3 ?_
    rw [rounds_succ]
    go_wp2
    rw [rounds_succ]
    go_wp2
    rw [rounds_succ]
    go_wp2
    go_ret
    exact ⟨BoolIs.yes yes.out (by first | rfl | (simp; done)), (by repeat (first | with_reducible exact hB | with_reducible exact Below.refl _ _ | with_reducible refine Below.drew ?_ | ((with_reducible refine Below.setCell ?_ ?_ _); rotate_left; (focus (first | (simp; done) | omega | (simp; omega)))) | with_reducible refine old_alloc ?_ _ | with_reducible refine old_trans ?_ (by with_reducible assumption)))⟩
  · have q1 : decide (u < 0) = false := decide_eq_false (by omega)
    have q2 : decide ((i : Int) ≤ u) = false := decide_eq_false (by omega)
    have q3 : decide (v < 0) = false := decide_eq_false (by omega)
    have q4 : decide ((i : Int) ≤ v) = false := decide_eq_false (by omega)
    go_wp2
    refine wp_loop_rounds 3 ?_
    rw [rounds_succ]
    go_wp2
    rw [rounds_succ]
    go_wp2
    rw [rounds_succ]
    go_wp2
    go_ret
    exact ⟨BoolIs.yes yes.out (by first | rfl | (simp; done)), (by repeat (first | with_reducible exact hB | with_reducible exact Below.refl _ _ | with_reducible refine Below.drew ?_ | ((with_reducible refine Below.setCell ?_ ?_ _); rotate_left; (focus (first | (simp; done) | omega | (simp; omega)))) | with_reducible refine old_alloc ?_ _ | with_reducible refine old_trans ?_ (by with_reducible assumption)))⟩
end Go.Proofs.Ytmpckbgelkfgpaa

/- A law's own copy of a term, as nodes that lie somewhere. Conditions: lists of 2^20 nodes at most. -/
namespace Go.Proofs.Ytmpckbgelkfgpaa
open Go.RowKit
set_option linter.unusedVariables false
set_option maxRecDepth 100000

theorem InN.al {w : World} {a : Option Addr} {len cap : Nat} {xs : List Tn} (h : InN w a len cap xs) (o : Obj) : InN (w.alloc o) a len cap xs := h.old ((Below.refl _ _).alloc (Nat.le_refl _) o)
theorem InN.dr {w : World} {a : Option Addr} {len cap : Nat} {xs : List Tn} (h : InN w a len cap xs) : InN w.drew a len cap xs := h.old (Below.refl _ _).drew
end Go.Proofs.Ytmpckbgelkfgpaa

/- Terms of the nodes of a graph: what they are, when they are nothing, and what going down from a node lays behind what was there. No condition. -/
namespace Go.Proofs.Ytmpckbgelkfgpaa
open Go.RowKit
set_option linter.unusedVariables false
set_option maxRecDepth 100000

/-- the parts' terms -/
def gtP (all : List (List Tn)) (g : Gn) : List (List Tn) :=
  if g.k = 2 then [] else if ac ⟨g.k, g.n, g.s⟩ = 1 then [all.getD g.u.toNat []] else if ac ⟨g.k, g.n, g.s⟩ = 2 then [all.getD g.u.toNat [], all.getD g.v.toNat []] else []
def gtX (names : List ByteArray) (g : Gn) : Tn := if g.k = 2 then ⟨2, 0, names.getD g.n.toNat ⟨#[]⟩⟩ else ⟨g.k, g.n, g.s⟩
/-- the term over its parts', nothing with more than 100 nodes or over nothing -/
def gtO (ps : List (List Tn)) (x : Tn) : List Tn := if (ps.flatten ++ [x]).length ≤ 100 ∧ ∀ p ∈ ps, p ≠ [] then ps.flatten ++ [x] else []
def trs (names : List ByteArray) (xs : List Gn) : Nat → List (List Tn)
  | 0 => []
  | n + 1 => trs names xs n ++ [gtO (gtP (trs names xs n) (xs.getD n gn0)) (gtX names (xs.getD n gn0))]
def trm (names : List ByteArray) (xs : List Gn) (i : Nat) : List Tn := gtO (gtP (trs names xs i) (xs.getD i gn0)) (gtX names (xs.getD i gn0))
/-- each node is a variable or stands over such as are ahead -/
def gOrd (nn : Nat) (xs : List Gn) : Prop := ∀ i, i < xs.length →
  ((xs.getD i gn0).k = 2 ∧ 0 ≤ (xs.getD i gn0).n ∧ (xs.getD i gn0).n < (nn : Int)) ∨
  ((xs.getD i gn0).k ≠ 2 ∧ (ac ⟨(xs.getD i gn0).k, (xs.getD i gn0).n, (xs.getD i gn0).s⟩ = 0 ∨ (ac ⟨(xs.getD i gn0).k, (xs.getD i gn0).n, (xs.getD i gn0).s⟩ = 1 ∧ 0 ≤ (xs.getD i gn0).u ∧ (xs.getD i gn0).u < (i : Int)) ∨
    (ac ⟨(xs.getD i gn0).k, (xs.getD i gn0).n, (xs.getD i gn0).s⟩ = 2 ∧ (0 ≤ (xs.getD i gn0).u ∧ (xs.getD i gn0).u < (i : Int)) ∧ 0 ≤ (xs.getD i gn0).v ∧ (xs.getD i gn0).v < (i : Int))))
variable {names : List ByteArray} {xs : List Gn}
theorem trs_len (n : Nat) : (trs names xs n).length = n := by
  induction n with
  | zero => rfl
  | succ n ih => simp [trs, ih]
theorem trs_succ (n : Nat) : trs names xs (n + 1) = trs names xs n ++ [trm names xs n] := rfl
theorem trs_at {i n : Nat} (h : i < n) : (trs names xs n).getD i [] = trm names xs i := by
  induction n with
  | zero => omega
  | succ n ih =>
    rw [trs_succ, List.getD_eq_getElem?_getD]
    by_cases e : i < n
    · rw [List.getElem?_append_left (by rw [trs_len]; exact e), ← List.getD_eq_getElem?_getD, ih e]
    · obtain rfl : i = n := by omega
      rw [List.getElem?_append_right (by rw [trs_len]; exact Nat.le_refl _), trs_len]
      simp
theorem gtO_le (ps : List (List Tn)) (x : Tn) : (gtO ps x).length ≤ 100 := by
  unfold gtO
  split
  · rename_i h; exact h.1
  · simp
theorem trm_le (i : Nat) : (trm names xs i).length ≤ 100 := gtO_le _ _
theorem gtO_nil (x : Tn) : gtO [] x = [x] := by unfold gtO; simp
theorem trm_var {i : Nat} (h : (xs.getD i gn0).k = 2) : trm names xs i = [gtX names (xs.getD i gn0)] := by
  unfold trm gtP
  rw [if_pos h, gtO_nil]
theorem trm_zero {i : Nat} (h : (xs.getD i gn0).k ≠ 2) (ha : ac ⟨(xs.getD i gn0).k, (xs.getD i gn0).n, (xs.getD i gn0).s⟩ = 0) : trm names xs i = [gtX names (xs.getD i gn0)] := by
  unfold trm gtP
  rw [if_neg h, ha]
  exact gtO_nil _
theorem trm_one {i : Nat} (h : (xs.getD i gn0).k ≠ 2) (ha : ac ⟨(xs.getD i gn0).k, (xs.getD i gn0).n, (xs.getD i gn0).s⟩ = 1) (hu : 0 ≤ (xs.getD i gn0).u ∧ (xs.getD i gn0).u < (i : Int)) : trm names xs i = gtO [trm names xs (xs.getD i gn0).u.toNat] (gtX names (xs.getD i gn0)) := by
  have e : (trs names xs i).getD (xs.getD i gn0).u.toNat [] = trm names xs (xs.getD i gn0).u.toNat := trs_at (by omega)
  rw [← e]
  unfold trm gtP
  rw [if_neg h, ha]
  rfl
theorem trm_two {i : Nat} (h : (xs.getD i gn0).k ≠ 2) (ha : ac ⟨(xs.getD i gn0).k, (xs.getD i gn0).n, (xs.getD i gn0).s⟩ = 2) (hu : 0 ≤ (xs.getD i gn0).u ∧ (xs.getD i gn0).u < (i : Int)) (hv : 0 ≤ (xs.getD i gn0).v ∧ (xs.getD i gn0).v < (i : Int)) : trm names xs i = gtO [trm names xs (xs.getD i gn0).u.toNat, trm names xs (xs.getD i gn0).v.toNat] (gtX names (xs.getD i gn0)) := by
  have e : (trs names xs i).getD (xs.getD i gn0).u.toNat [] = trm names xs (xs.getD i gn0).u.toNat := trs_at (by omega)
  have e2 : (trs names xs i).getD (xs.getD i gn0).v.toNat [] = trm names xs (xs.getD i gn0).v.toNat := trs_at (by omega)
  rw [← e, ← e2]
  unfold trm gtP
  rw [if_neg h, ha]
  rfl
/-- what going down from a node makes of what was there -/
def sPost (z t r : List Tn) : Prop := t.length ≤ r.length ∧ ((z ≠ [] ∧ t.length + z.length ≤ 100 ∧ r = t ++ z) ∨ (¬ (z ≠ [] ∧ t.length + z.length ≤ 100) ∧ 100 < r.length))
theorem sPost.over {z t : List Tn} (h : 100 < t.length) : sPost z t t := ⟨Nat.le_refl _, .inr ⟨fun q => by
  have := List.length_pos_iff.2 q.1
  omega, h⟩⟩
theorem sPost.leaf (x : Tn) {t : List Tn} (h : t.length ≤ 100) : sPost [x] t (t ++ [x]) := by
  refine ⟨by simp, ?_⟩
  by_cases c : t.length + 1 ≤ 100
  · exact .inl ⟨by simp, by simpa using c, rfl⟩
  · exact .inr ⟨fun q => c (by simpa using q.2), by simp; omega⟩
theorem sPost.one {z t r : List Tn} (x : Tn) (h : sPost z t r) : sPost (gtO [z] x) t (r ++ [x]) := by
  obtain ⟨h1, h2⟩ := h
  refine ⟨by simp; omega, ?_⟩
  unfold gtO
  rcases h2 with ⟨a, b, rfl⟩ | ⟨a, b⟩
  · by_cases c : t.length + (z.length + 1) ≤ 100
    · rw [if_pos ⟨by simp; omega, by simpa using a⟩]
      exact .inl ⟨by simp, by simpa using c, by simp⟩
    · refine .inr ⟨fun q => ?_, by simp; omega⟩
      split at q
      · simp at q; omega
      · exact q.1 rfl
  · refine .inr ⟨fun q => ?_, by simp; omega⟩
    split at q
    · rename_i g
      simp at q g
      exact a ⟨g.2, by omega⟩
    · exact q.1 rfl
theorem sPost.two {z y t r s : List Tn} (x : Tn) (h : sPost z t r) (k : sPost y r s) : sPost (gtO [z, y] x) t (s ++ [x]) := by
  obtain ⟨h1, h2⟩ := h
  obtain ⟨k1, k2⟩ := k
  refine ⟨by simp; omega, ?_⟩
  unfold gtO
  rcases h2 with ⟨a, b, rfl⟩ | ⟨a, b⟩
  · rcases k2 with ⟨c, d, rfl⟩ | ⟨c, d⟩
    · by_cases e : t.length + (z.length + y.length + 1) ≤ 100
      · rw [if_pos ⟨by simp; omega, by simpa using ⟨a, c⟩⟩]
        exact .inl ⟨by simp, by simp; omega, by simp⟩
      · refine .inr ⟨fun q => ?_, by simp; omega⟩
        split at q
        · simp at q; omega
        · exact q.1 rfl
    · refine .inr ⟨fun q => ?_, by simp; omega⟩
      split at q
      · rename_i g
        simp at q g
        exact c ⟨g.2.2, by simp; omega⟩
      · exact q.1 rfl
  · refine .inr ⟨fun q => ?_, by simp; omega⟩
    split at q
    · rename_i g
      simp at q g
      exact a ⟨g.2.1, by omega⟩
    · exact q.1 rfl
/-- from nothing on: the term, or too long -/
theorem sPost.top {z r : List Tn} (hz : z.length ≤ 100) (h : sPost z [] r) : (r.length ≤ 100 ∧ r = z ∧ z ≠ []) ∨ (100 < r.length ∧ z = []) := by
  obtain ⟨-, ⟨a, b, rfl⟩ | ⟨a, b⟩⟩ := h
  · exact .inl ⟨by simpa using hz, by simp, a⟩
  · refine .inr ⟨b, Classical.byContradiction fun q => a ⟨q, by simpa using hz⟩⟩
/-- what GraphTerm answers -/
structure GTis (P : Prop) (z : List Tn) (L : List Tn) (ok : Bool) : Prop where
  iff : ok = true ↔ P ∧ z ≠ []
  val : L = if ok then z else []
theorem GTis.is {P : Prop} {z L : List Tn} {ok : Bool} (h : GTis P z L ok) (p : P) (q : z ≠ []) : ok = true ∧ L = z := by
  have := h.iff.2 ⟨p, q⟩
  exact ⟨this, by rw [h.val, this]; rfl⟩
theorem GTis.no {P : Prop} {z L : List Tn} {ok : Bool} (h : GTis P z L ok) (p : ¬ (P ∧ z ≠ [])) : ok = false ∧ L = [] := by
  have : ok = false := by
    cases hk : ok
    · rfl
    · exact absurd (h.iff.1 hk) p
  exact ⟨this, by rw [h.val, this]; rfl⟩
theorem GTis.mk' (P : Prop) (z : List Tn) : ∃ L ok, GTis P z L ok := by
  by_cases h : P ∧ z ≠ []
  · exact ⟨z, true, ⟨fun _ => h, fun _ => rfl⟩, rfl⟩
  · exact ⟨[], false, ⟨fun e => by simp at e, fun q => absurd q h⟩, rfl⟩
end Go.Proofs.Ytmpckbgelkfgpaa
