/- Whether a node may stand at a place of a graph, by the specification. Nothing that was there is written. No condition but that the graph is there. -/
import Derived.Test.YtmpckbgelkfgpaaPK01
import Derived.Test.YtmpckbgelkfgpaaPK07
import Derived.Test.YtmpckbgelkfgpaaPK11
import Derived.Deep.DeepCutAuto
import Derived.Deep.RegionWith
import Derived.BigQuiet
import Derived.Deep.RegionHeld3
namespace Go.Proofs.Ytmpckbgelkfgpaa
open Go.RowKit
set_option linter.unusedVariables false
set_option maxRecDepth 100000

/-- the variable of a place -/
def gvar (i : Nat) : Gn := ⟨2, 0, 0, i, ⟨#[]⟩⟩
/-- what a node is made of is as told, and stands ahead -/
def gnPart (g : Gn) (i : Nat) : Prop :=
  0 ≤ ac ⟨g.k, g.n, g.s⟩ ∧ g.k ≠ 2 ∧ g.k ≠ 13 ∧ ¬ (0 < ac ⟨g.k, g.n, g.s⟩ ∧ (g.u < 0 ∨ (i : Int) ≤ g.u) ∨ 1 < ac ⟨g.k, g.n, g.s⟩ ∧ (g.v < 0 ∨ (i : Int) ≤ g.v) ∨ ac ⟨g.k, g.n, g.s⟩ < 1 ∧ g.u ≠ 0 ∨ ac ⟨g.k, g.n, g.s⟩ < 2 ∧ g.v ≠ 0)
def gnOk (vs : Int) (xs : List Gn) (i : Nat) : Prop :=
  if (i : Int) < vs then xs.getD i gn0 = gvar i else gnPart (xs.getD i gn0) i ∧ ∀ j, j < i → xs.getD j gn0 ≠ xs.getD i gn0
theorem not_nil {s : ByteArray} (h : s.size ≠ 0) : s ≠ ⟨#[]⟩ := fun e => h (by rw [e]; rfl)
set_option maxRecDepth 100000 in
set_option maxHeartbeats 4000000 in
theorem sNodeVar (vs : Int) (a : Option Addr) (len cap : Nat) (xs : List Gn) (a' : Option Addr) (len' cap' : Nat) (i : Nat) (w : World) (hR : InGn w a len cap xs) (hi : i < len) (hv : (i : Int) < vs) (k u v n : Int) (s : ByteArray) (hx : xs.getD i gn0 = ⟨k, u, v, n, s⟩) :
    Calls Try.prog 107 #[.agg #[.int .i64 vs, .slice a len cap, .slice a' len' cap'], .int .i64 (i : Int)] w fun e w' => BoolIs e (xs.getD i gn0 = gvar i) ∧ Below w.heap.size w w' := by
  have K := CS.made w _ rfl #[.int .i64 vs, .slice a len cap, .slice a' len' cap'] 71
  have hB0 : Below w.heap.size w (w.alloc (.cells #[.int .i64 vs, .slice a len cap, .slice a' len' cap'] 71)) := old_alloc (Below.refl _ _) _
  obtain ⟨bl, off, k0, u0, v0, n0, s0, rfl, hbl, hx', hf, c0, c1, c2, c3, c4⟩ := (hR.old hB0).at hi
  rw [hx] at hx' ⊢
  obtain ⟨rfl, rfl, rfl, rfl, rfl⟩ := Gn.mk.inj hx'
  have d0 : decide ((i : Int) < vs) = true := decide_eq_true hv
  have heI : (0 : Int) ≤ (i : Int) := by omega
  have heJ : (i : Int) < (len : Int) := by omega
  have m0 := K.cell 0 _ rfl
  have m1 := K.cell 1 _ rfl
  clear hR hx hx' hf hbl hi hv
  by_cases e0 : k = 2
  case neg =>
    have g0 : (k == 2) = false := beq_eq_false_iff_ne.2 e0
    go_enter Try.func107, Try.ntmps107
    go_wp2
    go_ret
    exact ⟨BoolIs.mk (by simp [gvar, e0]), (by repeat (first | with_reducible exact Below.refl _ _ | with_reducible refine Below.drew ?_ | ((with_reducible refine Below.setCell ?_ ?_ _); rotate_left; (focus (first | (simp; done) | omega | (simp; omega)))) | with_reducible refine old_alloc ?_ _ | with_reducible refine old_trans ?_ (by with_reducible assumption)))⟩
  subst e0
  by_cases e1 : u = 0
  case neg =>
    have g0 : (u == 0) = false := beq_eq_false_iff_ne.2 e1
    go_enter Try.func107, Try.ntmps107
    go_wp2
    go_ret
    exact ⟨BoolIs.mk (by simp [gvar, e1]), (by repeat (first | with_reducible exact Below.refl _ _ | with_reducible refine Below.drew ?_ | ((with_reducible refine Below.setCell ?_ ?_ _); rotate_left; (focus (first | (simp; done) | omega | (simp; omega)))) | with_reducible refine old_alloc ?_ _ | with_reducible refine old_trans ?_ (by with_reducible assumption)))⟩
  subst e1
  by_cases e2 : v = 0
  case neg =>
    have g0 : (v == 0) = false := beq_eq_false_iff_ne.2 e2
    go_enter Try.func107, Try.ntmps107
    go_wp2
    go_ret
    exact ⟨BoolIs.mk (by simp [gvar, e2]), (by repeat (first | with_reducible exact Below.refl _ _ | with_reducible refine Below.drew ?_ | ((with_reducible refine Below.setCell ?_ ?_ _); rotate_left; (focus (first | (simp; done) | omega | (simp; omega)))) | with_reducible refine old_alloc ?_ _ | with_reducible refine old_trans ?_ (by with_reducible assumption)))⟩
  subst e2
  by_cases e3 : n = (i : Int)
  case neg =>
    have g0 : (n == (i : Int)) = false := beq_eq_false_iff_ne.2 e3
    go_enter Try.func107, Try.ntmps107
    go_wp2
    go_ret
    exact ⟨BoolIs.mk (by simp [gvar, e3]), (by repeat (first | with_reducible exact Below.refl _ _ | with_reducible refine Below.drew ?_ | ((with_reducible refine Below.setCell ?_ ?_ _); rotate_left; (focus (first | (simp; done) | omega | (simp; omega)))) | with_reducible refine old_alloc ?_ _ | with_reducible refine old_trans ?_ (by with_reducible assumption)))⟩
  subst e3
  by_cases e4 : s.size = 0
  case neg =>
    have ne := nonempty (s := s) (by omega)
    have nn := not_nil e4
    go_enter Try.func107, Try.ntmps107
    go_wp2
    go_ret
    exact ⟨BoolIs.mk (by simp [gvar, nn]), (by repeat (first | with_reducible exact Below.refl _ _ | with_reducible refine Below.drew ?_ | ((with_reducible refine Below.setCell ?_ ?_ _); rotate_left; (focus (first | (simp; done) | omega | (simp; omega)))) | with_reducible refine old_alloc ?_ _ | with_reducible refine old_trans ?_ (by with_reducible assumption)))⟩
  obtain rfl := size_nil e4
  go_enter Try.func107, Try.ntmps107
  go_wp2
  go_ret
  exact ⟨BoolIs.mk (by simp [gvar]), (by repeat (first | with_reducible exact Below.refl _ _ | with_reducible refine Below.drew ?_ | ((with_reducible refine Below.setCell ?_ ?_ _); rotate_left; (focus (first | (simp; done) | omega | (simp; omega)))) | with_reducible refine old_alloc ?_ _ | with_reducible refine old_trans ?_ (by with_reducible assumption)))⟩
end Go.Proofs.Ytmpckbgelkfgpaa

/- Whether a node that is no variable may stand at a place of a graph, by the specification. Nothing that was there is written. No condition but that the graph is there. -/
namespace Go.Proofs.Ytmpckbgelkfgpaa
open Go.RowKit
set_option linter.unusedVariables false
set_option maxRecDepth 100000

theorem toList_inj {s t : ByteArray} (h : s.toList = t.toList) : s = t := (of_toList h).trans (of_toList rfl).symm
theorem ne_list {s t : ByteArray} (h : s ≠ t) : (s.toList == t.toList) = false := by simpa using fun e => h (toList_inj e)
theorem ac_le {x : Tn} (h : x.k ≠ 13) : ac x ≤ 2 := by
  unfold ac
  repeat' split
  all_goals omega
set_option maxRecDepth 100000 in
set_option maxHeartbeats 8000000 in
theorem sNodeMade (vs : Int) (a : Option Addr) (len cap : Nat) (xs : List Gn) (a' : Option Addr) (len' cap' : Nat) (i : Nat) (w : World) (hR : InGn w a len cap xs) (hi : i < len) (hl : len ≤ 1000) (hv : ¬ (i : Int) < vs) (k u v n : Int) (s : ByteArray) (hx : xs.getD i gn0 = ⟨k, u, v, n, s⟩) :
    Calls Try.prog 107 #[.agg #[.int .i64 vs, .slice a len cap, .slice a' len' cap'], .int .i64 (i : Int)] w fun e w' => BoolIs e (gnPart ⟨k, u, v, n, s⟩ i ∧ ∀ j, j < i → xs.getD j gn0 ≠ ⟨k, u, v, n, s⟩) ∧ Below w.heap.size w w' := by
  have K := CS.made w _ rfl #[.int .i64 vs, .slice a len cap, .slice a' len' cap'] 71
  have hB0 : Below w.heap.size w (w.alloc (.cells #[.int .i64 vs, .slice a len cap, .slice a' len' cap'] 71)) := old_alloc (Below.refl _ _) _
  obtain ⟨bl, off, k0, u0, v0, n0, s0, rfl, hbl, hx', hf, c0, c1, c2, c3, c4⟩ := (hR.old hB0).at hi
  rw [hx] at hx'
  obtain ⟨rfl, rfl, rfl, rfl, rfl⟩ := Gn.mk.inj hx'
  have AR := hd (sArgs k n s hf.2.2.2.2)
  have hle := hd (fun (h : k ≠ 13) => ac_le (x := ⟨k, n, s⟩) h)
  have d0 : decide ((i : Int) < vs) = false := decide_eq_false hv
  have heI : (0 : Int) ≤ (i : Int) := by omega
  have heJ : (i : Int) < (len : Int) := by omega
  have m0 := K.cell 0 _ rfl
  have m1 := K.cell 1 _ rfl
  have K1 := CS.made (w.alloc (.cells #[.int .i64 vs, .slice (some ⟨bl, off, none⟩) len cap, .slice a' len' cap'] 71)) (w.heap.size + 1) (by simp) #[.int .i64 k, .int .i64 u, .int .i64 v, .int .i64 n, .string s] 149
  replace K := K.alloc (.cells #[.int .i64 k, .int .i64 u, .int .i64 v, .int .i64 n, .string s] 149)
  have hB1 := old_alloc hB0 (.cells #[.int .i64 k, .int .i64 u, .int .i64 v, .int .i64 n, .string s] 149)
  have GP : Hid (∀ c : Int, c = ac ⟨k, n, s⟩ → (gnPart ⟨k, u, v, n, s⟩ i ↔ (0 ≤ c ∧ k ≠ 2 ∧ k ≠ 13 ∧ ¬ (0 < c ∧ (u < 0 ∨ (i : Int) ≤ u) ∨ 1 < c ∧ (v < 0 ∨ (i : Int) ≤ v) ∨ c < 1 ∧ u ≠ 0 ∨ c < 2 ∧ v ≠ 0)))) := fun c h => by rw [h]; exact Iff.rfl
  obtain ⟨P, hP⟩ : ∃ P : Prop, P = gnPart ⟨k, u, v, n, s⟩ i := ⟨_, rfl⟩
  obtain ⟨c, hc⟩ : ∃ c, c = ac ⟨k, n, s⟩ := ⟨_, rfl⟩
  replace GP := hd (GP.out c hc)
  rw [← hP] at GP ⊢
  rw [← hc] at AR hle
  clear hP hc hx hx' hf hbl hv
  go_enter Try.func107, Try.ntmps107
  go_wp2_with fail
  generalize (w.alloc (.cells #[.int .i64 vs, .slice (some ⟨bl, off, none⟩) len cap, .slice a' len' cap'] 71)).alloc (.cells #[.int .i64 k, .int .i64 u, .int .i64 v, .int .i64 n, .string s] 149) = W1 at *
  clear m0 m1 c0 c1 c2 c3 c4
  refine (AR.out _).mono ?_
  rintro e w2 ⟨rfl, hb2⟩
  replace K := K.later hb2
  replace K1 := K1.later hb2
  have hB := old_trans hB1 hb2
  have hR2 := hR.old hB
  clear hB1 hB0 hb2 AR hR
  have m1 := K.cell 1 _ rfl
  have n0 := K1.cell 0 _ rfl
  have n1 := K1.cell 1 _ rfl
  have n2 := K1.cell 2 _ rfl
  have n3 := K1.cell 3 _ rfl
  have n4 := K1.cell 4 _ rfl
  by_cases h0 : c < 0
  · have g0 : decide (c < 0) = true := decide_eq_true h0
    have no : ¬ P := fun h => by have := GP.out.1 h; omega
    go_wp2
    go_ret
    exact ⟨BoolIs.mk (by simp [no]), (by repeat (first | with_reducible exact hB | with_reducible exact Below.refl _ _ | with_reducible refine Below.drew ?_ | ((with_reducible refine Below.setCell ?_ ?_ _); rotate_left; (focus (first | (simp; done) | omega | (simp; omega)))) | with_reducible refine old_alloc ?_ _ | with_reducible refine old_trans ?_ (by with_reducible assumption)))⟩
  have g0 : decide (c < 0) = false := decide_eq_false h0
  by_cases h2 : k = 2
  · have g2 : (k == 2) = true := by rw [h2]; rfl
    have no : ¬ P := fun h => (GP.out.1 h).2.1 h2
    clear h2
    go_wp2
    go_ret
    exact ⟨BoolIs.mk (by simp [no]), (by repeat (first | with_reducible exact hB | with_reducible exact Below.refl _ _ | with_reducible refine Below.drew ?_ | ((with_reducible refine Below.setCell ?_ ?_ _); rotate_left; (focus (first | (simp; done) | omega | (simp; omega)))) | with_reducible refine old_alloc ?_ _ | with_reducible refine old_trans ?_ (by with_reducible assumption)))⟩
  have g2 : (k == 2) = false := beq_eq_false_iff_ne.2 h2
  by_cases h3 : k = 13
  · have g3 : (k == 13) = true := by rw [h3]; rfl
    have no : ¬ P := fun h => (GP.out.1 h).2.2.1 h3
    clear h3
    go_wp2
    go_ret
    exact ⟨BoolIs.mk (by simp [no]), (by repeat (first | with_reducible exact hB | with_reducible exact Below.refl _ _ | with_reducible refine Below.drew ?_ | ((with_reducible refine Below.setCell ?_ ?_ _); rotate_left; (focus (first | (simp; done) | omega | (simp; omega)))) | with_reducible refine old_alloc ?_ _ | with_reducible refine old_trans ?_ (by with_reducible assumption)))⟩
  have g3 : (k == 13) = false := beq_eq_false_iff_ne.2 h3
  have hc2 := hle.out h3
  have hcc : c = 0 ∨ c = 1 ∨ c = 2 := by omega
  by_cases hbad : (0 < c ∧ (u < 0 ∨ (i : Int) ≤ u) ∨ 1 < c ∧ (v < 0 ∨ (i : Int) ≤ v) ∨ c < 1 ∧ u ≠ 0 ∨ c < 2 ∧ v ≠ 0)
  · have no : ¬ P := fun h => (GP.out.1 h).2.2.2 hbad
    go_upto_region 7 with fail
    go_cut [86] (fun x wx => x = .bool true ∧ w2 = wx)
    case first =>
      have hcase : (c = 0 ∧ u ≠ 0) ∨ (c = 0 ∧ u = 0 ∧ v ≠ 0) ∨ (c = 1 ∧ u < 0) ∨ (c = 1 ∧ 0 ≤ u ∧ (i : Int) ≤ u) ∨ (c = 1 ∧ 0 ≤ u ∧ u < (i : Int) ∧ v ≠ 0) ∨ (c = 2 ∧ u < 0) ∨ (c = 2 ∧ 0 ≤ u ∧ (i : Int) ≤ u) ∨ (c = 2 ∧ 0 ≤ u ∧ u < (i : Int) ∧ v < 0) ∨ (c = 2 ∧ 0 ≤ u ∧ u < (i : Int) ∧ 0 ≤ v ∧ (i : Int) ≤ v) := by omega
      clear hbad no GP hle g0 g2 g3 h0 h2 h3 hc2 hcc hR2
      rcases hcase with ⟨rfl, h⟩ | ⟨rfl, rfl, h⟩ | ⟨rfl, h⟩ | ⟨rfl, h, h'⟩ | ⟨rfl, h, h', h''⟩ | ⟨rfl, h⟩ | ⟨rfl, h, h'⟩ | ⟨rfl, h, h', h''⟩ | ⟨rfl, h, h', h'', h3⟩
      · have q : (u == 0) = false := beq_eq_false_iff_ne.2 h
        go_wp2
        go_meet
        exact ⟨by first | rfl | (simp; done) | (simp; omega), rfl⟩
      · have q : (v == 0) = false := beq_eq_false_iff_ne.2 h
        go_wp2
        go_meet
        exact ⟨by first | rfl | (simp; done) | (simp; omega), rfl⟩
      · have q : decide (u < 0) = true := decide_eq_true h
        go_wp2
        go_meet
        exact ⟨by first | rfl | (simp; done) | (simp; omega), rfl⟩
      · have q : decide (u < 0) = false := decide_eq_false (by omega)
        have q2 : decide ((i : Int) ≤ u) = true := decide_eq_true h'
        go_wp2
        go_meet
        exact ⟨by first | rfl | (simp; done) | (simp; omega), rfl⟩
      · have q : decide (u < 0) = false := decide_eq_false (by omega)
        have q2 : decide ((i : Int) ≤ u) = false := decide_eq_false (by omega)
        have q3 : (v == 0) = false := beq_eq_false_iff_ne.2 h''
        go_wp2
        go_meet
        exact ⟨by first | rfl | (simp; done) | (simp; omega), rfl⟩
      · have q : decide (u < 0) = true := decide_eq_true h
        go_wp2
        go_meet
        exact ⟨by first | rfl | (simp; done) | (simp; omega), rfl⟩
      · have q : decide (u < 0) = false := decide_eq_false (by omega)
        have q2 : decide ((i : Int) ≤ u) = true := decide_eq_true h'
        go_wp2
        go_meet
        exact ⟨by first | rfl | (simp; done) | (simp; omega), rfl⟩
      · have q : decide (u < 0) = false := decide_eq_false (by omega)
        have q2 : decide ((i : Int) ≤ u) = false := decide_eq_false (by omega)
        have q3 : decide (v < 0) = true := decide_eq_true h''
        go_wp2
        go_meet
        exact ⟨by first | rfl | (simp; done) | (simp; omega), rfl⟩
      · have q : decide (u < 0) = false := decide_eq_false (by omega)
        have q2 : decide ((i : Int) ≤ u) = false := decide_eq_false (by omega)
        have q3 : decide (v < 0) = false := decide_eq_false (by omega)
        have q4 : decide ((i : Int) ≤ v) = true := decide_eq_true h3
        go_wp2
        go_meet
        exact ⟨by first | rfl | (simp; done) | (simp; omega), rfl⟩
    case rest =>
      obtain ⟨rfl, rfl⟩ := hcut
      go_wp2
      go_ret
      exact ⟨BoolIs.mk (by simp [no]), (by repeat (first | with_reducible exact hB | with_reducible exact Below.refl _ _ | with_reducible refine Below.drew ?_ | ((with_reducible refine Below.setCell ?_ ?_ _); rotate_left; (focus (first | (simp; done) | omega | (simp; omega)))) | with_reducible refine old_alloc ?_ _ | with_reducible refine old_trans ?_ (by with_reducible assumption)))⟩
  have yes : P := GP.out.2 ⟨by omega, h2, h3, hbad⟩
  go_upto_region 7 with fail
  go_cut [86] (fun x wx => x = .bool false ∧ w2 = wx)
  case first =>
    have hcase : (c = 0 ∧ u = 0 ∧ v = 0) ∨ (c = 1 ∧ 0 ≤ u ∧ u < (i : Int) ∧ v = 0) ∨ (c = 2 ∧ 0 ≤ u ∧ u < (i : Int) ∧ 0 ≤ v ∧ v < (i : Int)) := by omega
    clear hbad yes GP hle g0 g2 g3 h0 h2 h3 hc2 hcc hR2
    rcases hcase with ⟨rfl, rfl, rfl⟩ | ⟨rfl, h, h', rfl⟩ | ⟨rfl, h, h', h2, h3⟩
    · skip
      go_wp2
      go_meet
      exact ⟨by first | rfl | (simp; done) | (simp; omega), rfl⟩
    · have q : decide (u < 0) = false := decide_eq_false (by omega)
      have q2 : decide ((i : Int) ≤ u) = false := decide_eq_false (by omega)
      go_wp2
      go_meet
      exact ⟨by first | rfl | (simp; done) | (simp; omega), rfl⟩
    · have q : decide (u < 0) = false := decide_eq_false (by omega)
      have q2 : decide ((i : Int) ≤ u) = false := decide_eq_false (by omega)
      have q3 : decide (v < 0) = false := decide_eq_false (by omega)
      have q4 : decide ((i : Int) ≤ v) = false := decide_eq_false (by omega)
      go_wp2
      go_meet
      exact ⟨by first | rfl | (simp; done) | (simp; omega), rfl⟩
  case rest =>
    obtain ⟨rfl, rfl⟩ := hcut
    clear m1 n0 n1 n2 n3 n4 hbad GP hle g0 g2 g3 h0 h2 h3 hc2 hcc
    go_wp2_with fail
    go_loopw [7] (fun x wr => ∃ j : Nat, j ≤ i ∧ x = .int .i64 j ∧ Hid (∀ q, q < j → xs.getD q gn0 ≠ ⟨k, u, v, n, s⟩) ∧ Below w2.heap.size w2 wr) (fun x _ => i - (intOf x).toNat)
    case atStart => exact ⟨0, by omega, rfl, fun q h => by omega, Below.refl _ _⟩
    case round =>
      obtain ⟨j, hj, rfl, hne, hb⟩ := hrel
      have m1 := (K.later hb).cell 1 _ rfl
      have n0 := (K1.later hb).cell 0 _ rfl
      have n1 := (K1.later hb).cell 1 _ rfl
      have n2 := (K1.later hb).cell 2 _ rfl
      have n3 := (K1.later hb).cell 3 _ rfl
      have n4 := (K1.later hb).cell 4 _ rfl
      by_cases hlt : j < i
      · obtain ⟨bl', off', k', u', v', n', s', hav, hbl, hx', -, c0, c1, c2, c3, c4⟩ := (hR2.old hb).at (show j < len by omega)
        injection hav with hav
        injection hav with q1 q2
        subst q1 q2
        have hjI : (j : Int) < (i : Int) := by omega
        have hjL : (j : Int) < (len : Int) := by omega
        have hj0 : (0 : Int) ≤ (j : Int) := by omega
        by_cases he : k' = k ∧ u' = u ∧ v' = v ∧ n' = n ∧ s' = s
        · obtain ⟨rfl, rfl, rfl, rfl, rfl⟩ := he
          have no : ¬ ∀ q, q < i → xs.getD q gn0 ≠ ⟨k', u', v', n', s'⟩ := fun h => h j hlt hx'
          clear hne hx' hR2
          go_upto_region 12 with fail
          go_region_held3 (fun w' => w'.cell? ⟨w.heap.size, 1, none⟩ = some (.slice (some ⟨bl, off, none⟩) len cap) ∧ w'.cell? ⟨bl, off + j * 5, none⟩ = some (.int .i64 k') ∧ w'.cell? ⟨bl, off + j * 5 + 1, none⟩ = some (.int .i64 u') ∧ w'.cell? ⟨bl, off + j * 5 + 2, none⟩ = some (.int .i64 v') ∧ w'.cell? ⟨bl, off + j * 5 + 3, none⟩ = some (.int .i64 n') ∧ w'.cell? ⟨bl, off + j * 5 + 4, none⟩ = some (.string s') ∧ w'.cell? ⟨w.heap.size + 1, 0, none⟩ = some (.int .i64 k') ∧ w'.cell? ⟨w.heap.size + 1, 1, none⟩ = some (.int .i64 u') ∧ w'.cell? ⟨w.heap.size + 1, 2, none⟩ = some (.int .i64 v') ∧ w'.cell? ⟨w.heap.size + 1, 3, none⟩ = some (.int .i64 n') ∧ w'.cell? ⟨w.heap.size + 1, 4, none⟩ = some (.string s')) (go_keep) (fail)
          all_goals
            go_wp2
            go_ret
            exact ⟨BoolIs.mk ⟨fun h => (by cases h), fun h => absurd h.2 no⟩, old_trans hB (by with_reducible first | exact hb | exact hb.drew)⟩
        have hxn : xs.getD j gn0 ≠ ⟨k, u, v, n, s⟩ := by
          rw [hx']
          intro h
          obtain ⟨e1, e2, e3, e4, e5⟩ := Gn.mk.inj h
          exact he ⟨e1, e2, e3, e4, e5⟩
        have hcase : k' ≠ k ∨ (k' = k ∧ u' ≠ u) ∨ (k' = k ∧ u' = u ∧ v' ≠ v) ∨ (k' = k ∧ u' = u ∧ v' = v ∧ n' ≠ n) ∨ (k' = k ∧ u' = u ∧ v' = v ∧ n' = n ∧ s' ≠ s) := by
          by_cases e1 : k' = k
          · by_cases e2 : u' = u
            · by_cases e3 : v' = v
              · by_cases e4 : n' = n
                · by_cases e5 : s' = s
                  · exact absurd ⟨e1, e2, e3, e4, e5⟩ he
                  · exact .inr (.inr (.inr (.inr ⟨e1, e2, e3, e4, e5⟩)))
                · exact .inr (.inr (.inr (.inl ⟨e1, e2, e3, e4⟩)))
              · exact .inr (.inr (.inl ⟨e1, e2, e3⟩))
            · exact .inr (.inl ⟨e1, e2⟩)
          · exact .inl e1
        replace hxn := hd hxn
        clear hx' he hR2
        rcases hcase with q | ⟨rfl, q⟩ | ⟨rfl, rfl, q⟩ | ⟨rfl, rfl, rfl, q⟩ | ⟨rfl, rfl, rfl, rfl, q⟩
        · have g : (k' == k) = false := beq_eq_false_iff_ne.2 q
          clear q
          go_upto_region 12 with fail
          go_region_held3 (fun w' => w'.cell? ⟨w.heap.size, 1, none⟩ = some (.slice (some ⟨bl, off, none⟩) len cap) ∧ w'.cell? ⟨bl, off + j * 5, none⟩ = some (.int .i64 k') ∧ w'.cell? ⟨bl, off + j * 5 + 1, none⟩ = some (.int .i64 u') ∧ w'.cell? ⟨bl, off + j * 5 + 2, none⟩ = some (.int .i64 v') ∧ w'.cell? ⟨bl, off + j * 5 + 3, none⟩ = some (.int .i64 n') ∧ w'.cell? ⟨bl, off + j * 5 + 4, none⟩ = some (.string s') ∧ w'.cell? ⟨w.heap.size + 1, 0, none⟩ = some (.int .i64 k) ∧ w'.cell? ⟨w.heap.size + 1, 1, none⟩ = some (.int .i64 u) ∧ w'.cell? ⟨w.heap.size + 1, 2, none⟩ = some (.int .i64 v) ∧ w'.cell? ⟨w.heap.size + 1, 3, none⟩ = some (.int .i64 n) ∧ w'.cell? ⟨w.heap.size + 1, 4, none⟩ = some (.string s)) (go_keep) (fail)
          all_goals
            go_wp2
            go_roundw
            case rel => exact ⟨j + 1, by omega, by go_num, fun q hq => by
              by_cases e : q = j
              · rw [e]; exact hxn.out
              · exact hne.out q (by omega), (by with_reducible first | exact hb | exact hb.drew)⟩
            case measure => simp [intOf]; omega
        · have g : (u' == u) = false := beq_eq_false_iff_ne.2 q
          clear q
          go_upto_region 12 with fail
          go_region_held3 (fun w' => w'.cell? ⟨w.heap.size, 1, none⟩ = some (.slice (some ⟨bl, off, none⟩) len cap) ∧ w'.cell? ⟨bl, off + j * 5, none⟩ = some (.int .i64 k') ∧ w'.cell? ⟨bl, off + j * 5 + 1, none⟩ = some (.int .i64 u') ∧ w'.cell? ⟨bl, off + j * 5 + 2, none⟩ = some (.int .i64 v') ∧ w'.cell? ⟨bl, off + j * 5 + 3, none⟩ = some (.int .i64 n') ∧ w'.cell? ⟨bl, off + j * 5 + 4, none⟩ = some (.string s') ∧ w'.cell? ⟨w.heap.size + 1, 0, none⟩ = some (.int .i64 k') ∧ w'.cell? ⟨w.heap.size + 1, 1, none⟩ = some (.int .i64 u) ∧ w'.cell? ⟨w.heap.size + 1, 2, none⟩ = some (.int .i64 v) ∧ w'.cell? ⟨w.heap.size + 1, 3, none⟩ = some (.int .i64 n) ∧ w'.cell? ⟨w.heap.size + 1, 4, none⟩ = some (.string s)) (go_keep) (fail)
          all_goals
            go_wp2
            go_roundw
            case rel => exact ⟨j + 1, by omega, by go_num, fun q hq => by
              by_cases e : q = j
              · rw [e]; exact hxn.out
              · exact hne.out q (by omega), (by with_reducible first | exact hb | exact hb.drew)⟩
            case measure => simp [intOf]; omega
        · have g : (v' == v) = false := beq_eq_false_iff_ne.2 q
          clear q
          go_upto_region 12 with fail
          go_region_held3 (fun w' => w'.cell? ⟨w.heap.size, 1, none⟩ = some (.slice (some ⟨bl, off, none⟩) len cap) ∧ w'.cell? ⟨bl, off + j * 5, none⟩ = some (.int .i64 k') ∧ w'.cell? ⟨bl, off + j * 5 + 1, none⟩ = some (.int .i64 u') ∧ w'.cell? ⟨bl, off + j * 5 + 2, none⟩ = some (.int .i64 v') ∧ w'.cell? ⟨bl, off + j * 5 + 3, none⟩ = some (.int .i64 n') ∧ w'.cell? ⟨bl, off + j * 5 + 4, none⟩ = some (.string s') ∧ w'.cell? ⟨w.heap.size + 1, 0, none⟩ = some (.int .i64 k') ∧ w'.cell? ⟨w.heap.size + 1, 1, none⟩ = some (.int .i64 u') ∧ w'.cell? ⟨w.heap.size + 1, 2, none⟩ = some (.int .i64 v) ∧ w'.cell? ⟨w.heap.size + 1, 3, none⟩ = some (.int .i64 n) ∧ w'.cell? ⟨w.heap.size + 1, 4, none⟩ = some (.string s)) (go_keep) (fail)
          all_goals
            go_wp2
            go_roundw
            case rel => exact ⟨j + 1, by omega, by go_num, fun q hq => by
              by_cases e : q = j
              · rw [e]; exact hxn.out
              · exact hne.out q (by omega), (by with_reducible first | exact hb | exact hb.drew)⟩
            case measure => simp [intOf]; omega
        · have g : (n' == n) = false := beq_eq_false_iff_ne.2 q
          clear q
          go_upto_region 12 with fail
          go_region_held3 (fun w' => w'.cell? ⟨w.heap.size, 1, none⟩ = some (.slice (some ⟨bl, off, none⟩) len cap) ∧ w'.cell? ⟨bl, off + j * 5, none⟩ = some (.int .i64 k') ∧ w'.cell? ⟨bl, off + j * 5 + 1, none⟩ = some (.int .i64 u') ∧ w'.cell? ⟨bl, off + j * 5 + 2, none⟩ = some (.int .i64 v') ∧ w'.cell? ⟨bl, off + j * 5 + 3, none⟩ = some (.int .i64 n') ∧ w'.cell? ⟨bl, off + j * 5 + 4, none⟩ = some (.string s') ∧ w'.cell? ⟨w.heap.size + 1, 0, none⟩ = some (.int .i64 k') ∧ w'.cell? ⟨w.heap.size + 1, 1, none⟩ = some (.int .i64 u') ∧ w'.cell? ⟨w.heap.size + 1, 2, none⟩ = some (.int .i64 v') ∧ w'.cell? ⟨w.heap.size + 1, 3, none⟩ = some (.int .i64 n) ∧ w'.cell? ⟨w.heap.size + 1, 4, none⟩ = some (.string s)) (go_keep) (fail)
          all_goals
            go_wp2
            go_roundw
            case rel => exact ⟨j + 1, by omega, by go_num, fun q hq => by
              by_cases e : q = j
              · rw [e]; exact hxn.out
              · exact hne.out q (by omega), (by with_reducible first | exact hb | exact hb.drew)⟩
            case measure => simp [intOf]; omega
        · have g := ne_list q
          clear q
          go_upto_region 12 with fail
          go_region_held3 (fun w' => w'.cell? ⟨w.heap.size, 1, none⟩ = some (.slice (some ⟨bl, off, none⟩) len cap) ∧ w'.cell? ⟨bl, off + j * 5, none⟩ = some (.int .i64 k') ∧ w'.cell? ⟨bl, off + j * 5 + 1, none⟩ = some (.int .i64 u') ∧ w'.cell? ⟨bl, off + j * 5 + 2, none⟩ = some (.int .i64 v') ∧ w'.cell? ⟨bl, off + j * 5 + 3, none⟩ = some (.int .i64 n') ∧ w'.cell? ⟨bl, off + j * 5 + 4, none⟩ = some (.string s') ∧ w'.cell? ⟨w.heap.size + 1, 0, none⟩ = some (.int .i64 k') ∧ w'.cell? ⟨w.heap.size + 1, 1, none⟩ = some (.int .i64 u') ∧ w'.cell? ⟨w.heap.size + 1, 2, none⟩ = some (.int .i64 v') ∧ w'.cell? ⟨w.heap.size + 1, 3, none⟩ = some (.int .i64 n') ∧ w'.cell? ⟨w.heap.size + 1, 4, none⟩ = some (.string s)) (go_keep) (fail)
          all_goals
            go_wp2
            go_roundw
            case rel => exact ⟨j + 1, by omega, by go_num, fun q hq => by
              by_cases e : q = j
              · rw [e]; exact hxn.out
              · exact hne.out q (by omega), (by with_reducible first | exact hb | exact hb.drew)⟩
            case measure => simp [intOf]; omega
      · obtain rfl : j = i := by omega
        have hni : ¬ ((j : Int) < (j : Int)) := by omega
        have all := hne.out
        go_wp2
        go_ret
        exact ⟨BoolIs.mk (by simp only [true_iff]; exact ⟨yes, all⟩), old_trans hB hb⟩
end Go.Proofs.Ytmpckbgelkfgpaa

/- Which relations of a graph are wrong, by the program. Nothing that was there is written. No condition but that the graph is there. -/
namespace Go.Proofs.Ytmpckbgelkfgpaa
open Go.RowKit
set_option linter.unusedVariables false
set_option maxRecDepth 100000

def grOk (len : Nat) (y : Gr) : Prop := (1 ≤ y.k ∧ y.k ≤ 3) ∧ (0 ≤ y.l ∧ y.l < (len : Int)) ∧ (0 ≤ y.r ∧ y.r < (len : Int))
def IntIs (e : Ending) (P : Prop) : Prop := ∃ z : Int, e = .returned (.int .i64 z) ∧ (0 ≤ z ↔ P)
theorem IntIs.mk {z : Int} {P : Prop} (h : 0 ≤ z ↔ P) : IntIs (.returned (.int .i64 z)) P := ⟨z, rfl, h⟩
theorem BoolIs.yes {r : Bool} {P : Prop} (h : P) (hr : r = true) : BoolIs (.returned (.bool r)) P := ⟨r, rfl, ⟨fun _ => h, fun _ => hr⟩⟩
theorem BoolIs.no {r : Bool} {P : Prop} (h : ¬ P) (hr : r = false) : BoolIs (.returned (.bool r)) P := ⟨r, rfl, ⟨fun e => absurd (e.symm.trans hr) Bool.noConfusion, fun e => absurd e h⟩⟩
theorem BoolIs.iff {e : Ending} {P Q : Prop} (h : BoolIs e P) (q : P ↔ Q) : BoolIs e Q := by
  obtain ⟨r, h1, h2⟩ := h
  exact ⟨r, h1, h2.trans q⟩
theorem iHas (vs : Int) (a : Option Addr) (len cap : Nat) (xs : List Gn) (a' : Option Addr) (len' cap' : Nat) (ys : List Gr) (i : Int) (w : World) :
    Calls Try.prog 81 #[.agg #[.int .i64 vs, .slice a len cap, .slice a' len' cap'], .int .i64 i] w fun e w' => e = .returned (.bool (decide (0 ≤ i ∧ i < (len : Int)))) ∧ Below w.heap.size w w' := by
  have K := CS.made w _ rfl #[.int .i64 vs, .slice a len cap, .slice a' len' cap'] 71
  have m1 := K.cell 1 _ rfl
  have hcase : i < 0 ∨ (0 ≤ i ∧ i < (len : Int)) ∨ (0 ≤ i ∧ (len : Int) ≤ i) := by omega
  rcases hcase with h | ⟨h, h1⟩ | ⟨h, h1⟩
  · have e1 : decide (0 ≤ i ∧ i < (len : Int)) = false := decide_eq_false (by omega)
    have q1 : decide (0 ≤ i) = false := decide_eq_false (by omega)
    rw [e1]
    go_enter Try.func81, Try.ntmps81
    go_wp2
    go_ret
    exact ⟨rfl, (by repeat (first | with_reducible exact hB | with_reducible exact Below.refl _ _ | with_reducible refine Below.drew ?_ | ((with_reducible refine Below.setCell ?_ ?_ _); rotate_left; (focus (first | (simp; done) | omega | (simp; omega)))) | with_reducible refine old_alloc ?_ _ | with_reducible refine old_trans ?_ (by with_reducible assumption)))⟩
  · have e1 : decide (0 ≤ i ∧ i < (len : Int)) = true := decide_eq_true (by omega)
    have q1 : decide (0 ≤ i) = true := decide_eq_true (by omega)
    have q2 : decide (i < (len : Int)) = true := decide_eq_true (by omega)
    rw [e1]
    go_enter Try.func81, Try.ntmps81
    go_wp2
    go_ret
    exact ⟨by first | rfl | simp | (simp; omega), (by repeat (first | with_reducible exact hB | with_reducible exact Below.refl _ _ | with_reducible refine Below.drew ?_ | ((with_reducible refine Below.setCell ?_ ?_ _); rotate_left; (focus (first | (simp; done) | omega | (simp; omega)))) | with_reducible refine old_alloc ?_ _ | with_reducible refine old_trans ?_ (by with_reducible assumption)))⟩
  · have e1 : decide (0 ≤ i ∧ i < (len : Int)) = false := decide_eq_false (by omega)
    have q1 : decide (0 ≤ i) = true := decide_eq_true (by omega)
    have q2 : decide (i < (len : Int)) = false := decide_eq_false (by omega)
    rw [e1]
    go_enter Try.func81, Try.ntmps81
    go_wp2
    go_ret
    exact ⟨by first | rfl | simp | (simp; omega), (by repeat (first | with_reducible exact hB | with_reducible exact Below.refl _ _ | with_reducible refine Below.drew ?_ | ((with_reducible refine Below.setCell ?_ ?_ _); rotate_left; (focus (first | (simp; done) | omega | (simp; omega)))) | with_reducible refine old_alloc ?_ _ | with_reducible refine old_trans ?_ (by with_reducible assumption)))⟩
set_option maxHeartbeats 4000000 in
theorem iWrong (vs : Int) (a : Option Addr) (len cap : Nat) (xs : List Gn) (a' : Option Addr) (len' cap' : Nat) (ys : List Gr) (k l r : Int) (w : World) :
    Calls Try.prog 116 #[.agg #[.int .i64 vs, .slice a len cap, .slice a' len' cap'], .agg #[.int .i64 k, .int .i64 l, .int .i64 r]] w fun e w' => BoolIs e (¬ grOk len ⟨k, l, r⟩) ∧ Below w.heap.size w w' := by
  have K := (CS.made w _ rfl #[.int .i64 vs, .slice a len cap, .slice a' len' cap'] 71).alloc (.cells #[.int .i64 k, .int .i64 l, .int .i64 r] 148)
  have K1 := CS.made (w.alloc (.cells #[.int .i64 vs, .slice a len cap, .slice a' len' cap'] 71)) (w.heap.size + 1) (by simp) #[.int .i64 k, .int .i64 l, .int .i64 r] 148
  have hB := old_alloc (old_alloc (Below.refl w.heap.size w) (.cells #[.int .i64 vs, .slice a len cap, .slice a' len' cap'] 71)) (.cells #[.int .i64 k, .int .i64 l, .int .i64 r] 148)
  have GP : Hid (grOk len ⟨k, l, r⟩ ↔ ((1 ≤ k ∧ k ≤ 3) ∧ (0 ≤ l ∧ l < (len : Int)) ∧ (0 ≤ r ∧ r < (len : Int)))) := Iff.rfl
  obtain ⟨P, hP⟩ : ∃ P : Prop, P = grOk len ⟨k, l, r⟩ := ⟨_, rfl⟩
  rw [← hP] at GP ⊢
  clear hP
  have H := hd (fun i W => iHas vs a len cap xs a' len' cap' ys i W)
  have m0 := K.cell 0 _ rfl
  have m1 := K.cell 1 _ rfl
  have m2 := K.cell 2 _ rfl
  have n0 := K1.cell 0 _ rfl
  have n1 := K1.cell 1 _ rfl
  have n2 := K1.cell 2 _ rfl
  go_enter Try.func116, Try.ntmps116
  go_upto_region 1 with fail
  generalize (w.alloc (.cells #[.int .i64 vs, .slice a len cap, .slice a' len' cap'] 71)).alloc (.cells #[.int .i64 k, .int .i64 l, .int .i64 r] 148) = W at *
  have hcase : k < 1 ∨ (1 ≤ k ∧ 3 < k) ∨ ((1 ≤ k ∧ k ≤ 3) ∧ ¬ (0 ≤ l ∧ l < (len : Int))) ∨ ((1 ≤ k ∧ k ≤ 3) ∧ (0 ≤ l ∧ l < (len : Int)) ∧ ¬ (0 ≤ r ∧ r < (len : Int))) ∨ ((1 ≤ k ∧ k ≤ 3) ∧ (0 ≤ l ∧ l < (len : Int)) ∧ (0 ≤ r ∧ r < (len : Int))) := by omega
  rcases hcase with h | ⟨h, h'⟩ | ⟨⟨h, h'⟩, hl⟩ | ⟨⟨h, h'⟩, hl, hr⟩ | ⟨⟨h, h'⟩, hl, hr⟩
  · have no : Hid (¬ P) := fun q => by have := GP.out.1 q; omega
    have q1 : decide (k < 1) = true := decide_eq_true (by omega)
    clear GP
    go_wp2
    go_ret
    exact ⟨BoolIs.yes no.out (by first | rfl | (simp; done) | (simp; omega)), (by repeat (first | with_reducible exact hB | with_reducible exact Below.refl _ _ | with_reducible refine Below.drew ?_ | ((with_reducible refine Below.setCell ?_ ?_ _); rotate_left; (focus (first | (simp; done) | omega | (simp; omega)))) | with_reducible refine old_alloc ?_ _ | with_reducible refine old_trans ?_ (by with_reducible assumption)))⟩
  · have no : Hid (¬ P) := fun q => by have := GP.out.1 q; omega
    have q1 : decide (k < 1) = false := decide_eq_false (by omega)
    have q2 : decide (3 < k) = true := decide_eq_true (by omega)
    clear GP
    go_wp2
    go_ret
    exact ⟨BoolIs.yes no.out (by first | rfl | (simp; done) | (simp; omega)), (by repeat (first | with_reducible exact hB | with_reducible exact Below.refl _ _ | with_reducible refine Below.drew ?_ | ((with_reducible refine Below.setCell ?_ ?_ _); rotate_left; (focus (first | (simp; done) | omega | (simp; omega)))) | with_reducible refine old_alloc ?_ _ | with_reducible refine old_trans ?_ (by with_reducible assumption)))⟩
  · have no : Hid (¬ P) := fun q => hl (GP.out.1 q).2.1
    have q1 : decide (k < 1) = false := decide_eq_false (by omega)
    have q2 : decide (3 < k) = false := decide_eq_false (by omega)
    have e1 : decide (0 ≤ l ∧ l < (len : Int)) = false := decide_eq_false hl
    have HL := hd (H.out l)
    rw [e1] at HL
    clear GP e1 hl
    go_wp2_with fail
    refine (HL.out _).mono ?_
    rintro e w2 ⟨rfl, hb2⟩
    have hb := old_trans hB hb2
    go_wp2
    go_ret
    exact ⟨BoolIs.yes no.out (by first | rfl | (simp; done) | (simp; omega)), hb⟩
  · have no : Hid (¬ P) := fun q => hr (GP.out.1 q).2.2
    have q1 : decide (k < 1) = false := decide_eq_false (by omega)
    have q2 : decide (3 < k) = false := decide_eq_false (by omega)
    have e1 : decide (0 ≤ l ∧ l < (len : Int)) = true := decide_eq_true hl
    have e2 : decide (0 ≤ r ∧ r < (len : Int)) = false := decide_eq_false hr
    have HL := hd (H.out l)
    have HR := hd (H.out r)
    rw [e1] at HL
    rw [e2] at HR
    clear GP e1 e2 hl hr
    go_wp2_with fail
    refine (HL.out _).mono ?_
    rintro e w2 ⟨rfl, hb2⟩
    have hb := old_trans hB hb2
    have m0 := (K.later hb2).cell 0 _ rfl
    have m1 := (K.later hb2).cell 1 _ rfl
    have m2 := (K.later hb2).cell 2 _ rfl
    have n2 := (K1.later hb2).cell 2 _ rfl
    go_wp2_with fail
    refine (HR.out _).mono ?_
    rintro e w3 ⟨rfl, hb3⟩
    replace hb := old_trans hb hb3
    go_wp2
    go_ret
    exact ⟨BoolIs.yes no.out (by first | rfl | (simp; done) | (simp; omega)), hb⟩
  · have yes : Hid P := GP.out.2 ⟨⟨h, h'⟩, hl, hr⟩
    have q1 : decide (k < 1) = false := decide_eq_false (by omega)
    have q2 : decide (3 < k) = false := decide_eq_false (by omega)
    have e1 : decide (0 ≤ l ∧ l < (len : Int)) = true := decide_eq_true hl
    have e2 : decide (0 ≤ r ∧ r < (len : Int)) = true := decide_eq_true hr
    have HL := hd (H.out l)
    have HR := hd (H.out r)
    rw [e1] at HL
    rw [e2] at HR
    clear GP e1 e2 hl hr
    go_wp2_with fail
    refine (HL.out _).mono ?_
    rintro e w2 ⟨rfl, hb2⟩
    have hb := old_trans hB hb2
    have m0 := (K.later hb2).cell 0 _ rfl
    have m1 := (K.later hb2).cell 1 _ rfl
    have m2 := (K.later hb2).cell 2 _ rfl
    have n2 := (K1.later hb2).cell 2 _ rfl
    go_wp2_with fail
    refine (HR.out _).mono ?_
    rintro e w3 ⟨rfl, hb3⟩
    replace hb := old_trans hb hb3
    go_wp2
    go_ret
    exact ⟨BoolIs.no (fun q => q yes.out) (by first | rfl | (simp; done) | (simp; omega)), hb⟩
set_option maxHeartbeats 2000000 in
theorem iIndexGr (g : Nat) (rv : Value) (a : Option Addr) (len cap : Nat) (ys : List Gr) (bad : Gr → Prop) (w : World) (hR : InGr w a len cap ys)
    (hE : ∀ args w, (callFunc g args).run Try.prog w = .ok (.enter g args) w)
    (hG : ∀ (k l r : Int) (W : World), Calls Try.prog g #[rv, .agg #[.int .i64 k, .int .i64 l, .int .i64 r]] W fun e W' => BoolIs e (bad ⟨k, l, r⟩) ∧ Below W.heap.size W W') :
    Calls Try.prog 140 #[.slice a len cap, .func (.func g) #[rv] #[]] w fun e w' => IntIs e (∃ i, i < len ∧ bad (ys.getD i gr0)) ∧ Below w.heap.size w w' := by
  have hlen : len ≤ maxLen := Nat.le_trans hR.2.1 hR.2.2.1
  unfold maxLen at hlen
  go_enter Try.func140, Try.ntmps140
  go_wp2
  go_loopw [8] (fun i wr => ∃ k : Nat, k ≤ len ∧ i = .int .i64 k ∧ Hid (∀ q, q < k → ¬ bad (ys.getD q gr0)) ∧ Below w.heap.size w wr) (fun b _ => len - (intOf b).toNat)
  case atStart => exact ⟨0, by omega, rfl, fun q h => by omega, (by repeat (first | exact Below.refl _ _ | refine Below.drew ?_ | refine old_alloc ?_ _ | refine old_trans ?_ (by assumption)))⟩
  case round =>
    obtain ⟨j, hk, rfl, hne, hb⟩ := hrel
    by_cases hlt : j < len
    · obtain ⟨bl, off, k, l, r, rfl, hbl, hx, hf, c0, c1, c2⟩ := (hR.old hb).at hlt
      have H := hd (hG k l r wr)
      rw [← hx] at H
      replace hx := hd hx
      clear hf hR
      go_wp2_with fail
      refine H.out.mono ?_
      rintro e w1 ⟨⟨b, rfl, hb1⟩, hb2⟩
      replace hb1 := hd hb1
      have hb' := old_trans hb hb2
      cases b
      case true =>
        have yes := hb1.out.1 rfl
        have j0 : (0 : Int) ≤ (j : Int) := by omega
        go_wp2
        go_ret
        exact ⟨IntIs.mk ⟨fun _ => ⟨j, hlt, yes⟩, fun _ => by omega⟩, hb'⟩
      case false =>
        have no : Hid (¬ bad (ys.getD j gr0)) := fun q => by have := hb1.out.2 q; cases this
        go_wp2
        go_roundw
        case rel => exact ⟨j + 1, by omega, by go_num, fun q hq => by
          by_cases e : q = j
          · rw [e]; exact no.out
          · exact hne.out q (by omega), hb'⟩
        case measure => simp [intOf]; omega
    · obtain rfl : j = len := by omega
      go_wp2
      go_ret
      exact ⟨IntIs.mk ⟨fun h => by omega, fun ⟨i, h1, h2⟩ => absurd h2 (hne.out i h1)⟩, hb⟩
set_option maxHeartbeats 2000000 in
theorem iContainsGr (g : Nat) (rv : Value) (a : Option Addr) (len cap : Nat) (ys : List Gr) (bad : Gr → Prop) (w : World) (hR : InGr w a len cap ys)
    (hE : ∀ args w, (callFunc g args).run Try.prog w = .ok (.enter g args) w)
    (hG : ∀ (k l r : Int) (W : World), Calls Try.prog g #[rv, .agg #[.int .i64 k, .int .i64 l, .int .i64 r]] W fun e W' => BoolIs e (bad ⟨k, l, r⟩) ∧ Below W.heap.size W W') :
    Calls Try.prog 115 #[.slice a len cap, .func (.func g) #[rv] #[]] w fun e w' => BoolIs e (∃ i, i < len ∧ bad (ys.getD i gr0)) ∧ Below w.heap.size w w' := by
  have H := hd (iIndexGr g rv a len cap ys bad w hR hE hG)
  clear hG
  go_enter Try.func115, Try.ntmps115
  go_wp2_with fail
  refine H.out.mono ?_
  rintro e w1 ⟨⟨z, rfl, hz⟩, hb⟩
  replace hz := hd hz
  go_wp2
  go_ret
  exact ⟨BoolIs.mk (by have := hz.out; simpa using this), hb⟩
end Go.Proofs.Ytmpckbgelkfgpaa

/- Whether a graph is one, by the specification. Nothing that was there is written. No condition but that the graph is there. -/
namespace Go.Proofs.Ytmpckbgelkfgpaa
open Go.RowKit
set_option linter.unusedVariables false
set_option maxRecDepth 100000

def gLim (vs : Int) (len len' : Nat) : Prop := 1 ≤ vs ∧ vs ≤ 6 ∧ vs ≤ (len : Int) ∧ len ≤ 120 ∧ 1 ≤ len' ∧ len' ≤ 12
def gOk (vs : Int) (xs : List Gn) (ys : List Gr) : Prop := gLim vs xs.length ys.length ∧ (∀ i, i < xs.length → gnOk vs xs i) ∧ (∀ i, i < ys.length → grOk xs.length (ys.getD i gr0))
theorem sKind (k : Int) (w : World) : Calls Try.prog 108 #[.int .i64 k] w fun e w' => BoolIs e (1 ≤ k ∧ k ≤ 3) ∧ Below w.heap.size w w' := by
  have hcase : k = 1 ∨ k = 2 ∨ k = 3 ∨ (k ≠ 1 ∧ k ≠ 2 ∧ k ≠ 3) := by omega
  rcases hcase with rfl | rfl | rfl | ⟨h1, h2, h3⟩
  · go_enter Try.func108, Try.ntmps108
    go_wp2
    go_ret
    exact ⟨BoolIs.mk (by simp), (by repeat (first | with_reducible exact hB | with_reducible exact Below.refl _ _ | with_reducible refine Below.drew ?_ | ((with_reducible refine Below.setCell ?_ ?_ _); rotate_left; (focus (first | (simp; done) | omega | (simp; omega)))) | with_reducible refine old_alloc ?_ _ | with_reducible refine old_trans ?_ (by with_reducible assumption)))⟩
  · go_enter Try.func108, Try.ntmps108
    go_wp2
    go_ret
    exact ⟨BoolIs.mk (by simp), (by repeat (first | with_reducible exact hB | with_reducible exact Below.refl _ _ | with_reducible refine Below.drew ?_ | ((with_reducible refine Below.setCell ?_ ?_ _); rotate_left; (focus (first | (simp; done) | omega | (simp; omega)))) | with_reducible refine old_alloc ?_ _ | with_reducible refine old_trans ?_ (by with_reducible assumption)))⟩
  · go_enter Try.func108, Try.ntmps108
    go_wp2
    go_ret
    exact ⟨BoolIs.mk (by simp), (by repeat (first | with_reducible exact hB | with_reducible exact Below.refl _ _ | with_reducible refine Below.drew ?_ | ((with_reducible refine Below.setCell ?_ ?_ _); rotate_left; (focus (first | (simp; done) | omega | (simp; omega)))) | with_reducible refine old_alloc ?_ _ | with_reducible refine old_trans ?_ (by with_reducible assumption)))⟩
  · have no : ¬ (1 ≤ k ∧ k ≤ 3) := by omega
    have g1 : (k == 1) = false := beq_eq_false_iff_ne.2 h1
    have g2 : (k == 2) = false := beq_eq_false_iff_ne.2 h2
    have g3 : (k == 3) = false := beq_eq_false_iff_ne.2 h3
    go_enter Try.func108, Try.ntmps108
    go_wp2
    go_ret
    exact ⟨BoolIs.mk ⟨fun h => by simp at h, fun h => absurd h no⟩, (by repeat (first | with_reducible exact hB | with_reducible exact Below.refl _ _ | with_reducible refine Below.drew ?_ | ((with_reducible refine Below.setCell ?_ ?_ _); rotate_left; (focus (first | (simp; done) | omega | (simp; omega)))) | with_reducible refine old_alloc ?_ _ | with_reducible refine old_trans ?_ (by with_reducible assumption)))⟩
theorem sNode (vs : Int) (a : Option Addr) (len cap : Nat) (xs : List Gn) (a' : Option Addr) (len' cap' : Nat) (i : Nat) (w : World) (hR : InGn w a len cap xs) (hi : i < len) (hl : len ≤ 1000) :
    Calls Try.prog 107 #[.agg #[.int .i64 vs, .slice a len cap, .slice a' len' cap'], .int .i64 (i : Int)] w fun e w' => BoolIs e (gnOk vs xs i) ∧ Below w.heap.size w w' := by
  obtain ⟨k, u, v, n, s, hx⟩ : ∃ k u v n s, xs.getD i gn0 = ⟨k, u, v, n, s⟩ := ⟨_, _, _, _, _, rfl⟩
  unfold gnOk
  by_cases hv : (i : Int) < vs
  · rw [if_pos hv]
    exact sNodeVar vs a len cap xs a' len' cap' i w hR hi hv k u v n s hx
  · rw [if_neg hv, hx]
    exact sNodeMade vs a len cap xs a' len' cap' i w hR hi hl hv k u v n s hx
set_option maxRecDepth 100000 in
set_option maxHeartbeats 8000000 in
theorem sGraphOk (vs : Int) (a : Option Addr) (len cap : Nat) (xs : List Gn) (a' : Option Addr) (len' cap' : Nat) (ys : List Gr) (w : World) (hR : InGn w a len cap xs) (hR' : InGr w a' len' cap' ys) (hl : len ≤ 1048576) (hl' : len' ≤ 1048576) :
    Calls Try.prog 73 #[.agg #[.int .i64 vs, .slice a len cap, .slice a' len' cap']] w fun e w' => BoolIs e (gOk vs xs ys) ∧ Below w.heap.size w w' := by
  have K := CS.made w _ rfl #[.int .i64 vs, .slice a len cap, .slice a' len' cap'] 71
  have hB := old_alloc (Below.refl w.heap.size w) (.cells #[.int .i64 vs, .slice a len cap, .slice a' len' cap'] 71)
  replace hR := hR.old hB
  replace hR' := hR'.old hB
  have hn : xs.length = len := hR.1
  have hn' : ys.length = len' := hR'.1
  have GP : Hid (gOk vs xs ys ↔ (gLim vs len len' ∧ (∀ i, i < len → gnOk vs xs i) ∧ (∀ i, i < len' → grOk len (ys.getD i gr0)))) := by
    unfold gOk
    rw [hn, hn']
    exact Iff.rfl
  obtain ⟨P, hP⟩ : ∃ P : Prop, P = gOk vs xs ys := ⟨_, rfl⟩
  rw [← hP] at GP ⊢
  clear hP hn hn'
  have m0 := K.cell 0 _ rfl
  have m1 := K.cell 1 _ rfl
  have m2 := K.cell 2 _ rfl
  go_enter Try.func73, Try.ntmps73
  go_upto_region 1 with fail
  generalize w.alloc (.cells #[.int .i64 vs, .slice a len cap, .slice a' len' cap'] 71) = W at *
  by_cases lim : gLim vs len len'
  case neg =>
    have no : Hid (¬ P) := fun h => lim (GP.out.1 h).1
    go_cut [39] (fun x wx => x = .bool true ∧ W = wx)
    case first =>
      have hcase : vs < 1 ∨ (1 ≤ vs ∧ 6 < vs) ∨ (1 ≤ vs ∧ vs ≤ 6 ∧ (len : Int) < vs) ∨ (1 ≤ vs ∧ vs ≤ 6 ∧ vs ≤ (len : Int) ∧ 120 < (len : Int)) ∨ (1 ≤ vs ∧ vs ≤ 6 ∧ vs ≤ (len : Int) ∧ (len : Int) ≤ 120 ∧ (len' : Int) < 1) ∨ (1 ≤ vs ∧ vs ≤ 6 ∧ vs ≤ (len : Int) ∧ (len : Int) ≤ 120 ∧ 1 ≤ (len' : Int) ∧ 12 < (len' : Int)) := by
        unfold gLim at lim
        omega
      clear lim no GP hR hR' hB
      rcases hcase with h | ⟨h, h1⟩ | ⟨h, h1, h2⟩ | ⟨h, h1, h2, h3⟩ | ⟨h, h1, h2, h3, h4⟩ | ⟨h, h1, h2, h3, h4, h5⟩
      · have q0 : decide (vs < 1) = true := decide_eq_true (by omega)
        go_wp2
        go_meet
        exact ⟨by first | rfl | (simp; done) | (simp; omega), rfl⟩
      · have q0 : decide (vs < 1) = false := decide_eq_false (by omega)
        have q1 : decide (6 < vs) = true := decide_eq_true (by omega)
        go_wp2
        go_meet
        exact ⟨by first | rfl | (simp; done) | (simp; omega), rfl⟩
      · have q0 : decide (vs < 1) = false := decide_eq_false (by omega)
        have q1 : decide (6 < vs) = false := decide_eq_false (by omega)
        have q2 : decide ((len : Int) < vs) = true := decide_eq_true (by omega)
        go_wp2
        go_meet
        exact ⟨by first | rfl | (simp; done) | (simp; omega), rfl⟩
      · have q0 : decide (vs < 1) = false := decide_eq_false (by omega)
        have q1 : decide (6 < vs) = false := decide_eq_false (by omega)
        have q2 : decide ((len : Int) < vs) = false := decide_eq_false (by omega)
        have q3 : decide (120 < (len : Int)) = true := decide_eq_true (by omega)
        go_wp2
        go_meet
        exact ⟨by first | rfl | (simp; done) | (simp; omega), rfl⟩
      · have q0 : decide (vs < 1) = false := decide_eq_false (by omega)
        have q1 : decide (6 < vs) = false := decide_eq_false (by omega)
        have q2 : decide ((len : Int) < vs) = false := decide_eq_false (by omega)
        have q3 : decide (120 < (len : Int)) = false := decide_eq_false (by omega)
        have q4 : decide ((len' : Int) < 1) = true := decide_eq_true (by omega)
        go_wp2
        go_meet
        exact ⟨by first | rfl | (simp; done) | (simp; omega), rfl⟩
      · have q0 : decide (vs < 1) = false := decide_eq_false (by omega)
        have q1 : decide (6 < vs) = false := decide_eq_false (by omega)
        have q2 : decide ((len : Int) < vs) = false := decide_eq_false (by omega)
        have q3 : decide (120 < (len : Int)) = false := decide_eq_false (by omega)
        have q4 : decide ((len' : Int) < 1) = false := decide_eq_false (by omega)
        have q5 : decide (12 < (len' : Int)) = true := decide_eq_true (by omega)
        go_wp2
        go_meet
        exact ⟨by first | rfl | (simp; done) | (simp; omega), rfl⟩
    case rest =>
      obtain ⟨rfl, rfl⟩ := hcut
      go_wp2
      go_ret
      exact ⟨BoolIs.no no.out rfl, (by repeat (first | with_reducible exact hB | with_reducible exact Below.refl _ _ | with_reducible refine Below.drew ?_ | ((with_reducible refine Below.setCell ?_ ?_ _); rotate_left; (focus (first | (simp; done) | omega | (simp; omega)))) | with_reducible refine old_alloc ?_ _ | with_reducible refine old_trans ?_ (by with_reducible assumption)))⟩
  have lim' : (len : Int) ≤ 120 ∧ (len' : Int) ≤ 12 := by unfold gLim at lim; omega
  obtain ⟨hl120, hl12⟩ := lim'
  go_cut [39] (fun x wx => x = .bool false ∧ W = wx)
  case first =>
    unfold gLim at lim
    obtain ⟨h0, h1, h2, h3, h4, h5⟩ := lim
    have q0 : decide (vs < 1) = false := decide_eq_false (by omega)
    have q1 : decide (6 < vs) = false := decide_eq_false (by omega)
    have q2 : decide ((len : Int) < vs) = false := decide_eq_false (by omega)
    have q3 : decide (120 < (len : Int)) = false := decide_eq_false (by omega)
    have q4 : decide ((len' : Int) < 1) = false := decide_eq_false (by omega)
    have q5 : decide (12 < (len' : Int)) = false := decide_eq_false (by omega)
    clear GP hR hR' hB
    go_wp2
    go_meet
    exact ⟨by first | rfl | (simp; done) | (simp; omega), rfl⟩
  case rest =>
    obtain ⟨rfl, rfl⟩ := hcut
    clear m0 m1 m2
    go_wp2_with fail
    go_loopw [3] (fun x wr => ∃ j : Nat, j ≤ len ∧ x = .int .i64 j ∧ Hid (∀ q, q < j → gnOk vs xs q) ∧ Below W.heap.size W wr) (fun x _ => len - (intOf x).toNat)
    case atStart => exact ⟨0, by omega, rfl, fun q h => by omega, Below.refl _ _⟩
    case round =>
      obtain ⟨j, hj, rfl, hne, hb⟩ := hrel
      have m0 := (K.later hb).cell 0 _ rfl
      have m1 := (K.later hb).cell 1 _ rfl
      have m2 := (K.later hb).cell 2 _ rfl
      by_cases hlt : j < len
      · have hjI : (j : Int) < (len : Int) := by omega
        have N := hd (sNode vs a len cap xs a' len' cap' j wr (hR.old hb) hlt (by omega))
        clear hR hR' K
        go_wp2_with fail
        refine N.out.mono ?_
        rintro e w2 ⟨⟨r, rfl, hr⟩, hb2⟩
        replace hr := hd hr
        have hb' := old_trans hb hb2
        cases r
        case false =>
          have no : Hid (¬ P) := fun h => by have := hr.out.2 ((GP.out.1 h).2.1 j hlt); cases this
          go_wp2
          go_ret
          exact ⟨BoolIs.no no.out rfl, old_trans hB hb'⟩
        case true =>
          have yes := hd (hr.out.1 rfl)
          go_wp2
          go_roundw
          case rel => exact ⟨j + 1, by omega, by go_num, fun q hq => by
            by_cases e : q = j
            · rw [e]; exact yes.out
            · exact hne.out q (by omega), hb'⟩
          case measure => simp [intOf]; omega
      · obtain rfl : j = len := by omega
        have hni : ¬ ((j : Int) < (j : Int)) := by omega
        clear m0 m2
        go_wp2_with fail
        clear m1
        replace K := K.later hb
        replace hR' := hR'.old hb
        replace hB := old_trans hB hb
        clear hb hR
        generalize wr = wq at *
        go_loopw [4] (fun x wr => ∃ i : Nat, i ≤ len' ∧ x = .int .i64 i ∧ Hid (∀ q, q < i → grOk j (ys.getD q gr0)) ∧ Below wq.heap.size wq wr) (fun x _ => len' - (intOf x).toNat)
        case atStart => exact ⟨0, by omega, rfl, fun q h => by omega, Below.refl _ _⟩
        case round =>
          obtain ⟨i, hi, rfl, hre, hb⟩ := hrel
          have m1 := (K.later hb).cell 1 _ rfl
          have m2 := (K.later hb).cell 2 _ rfl
          by_cases hlt : i < len'
          · obtain ⟨bl, off, k, l, r, hav, hbl, hx, hf, c0, c1, c2⟩ := (hR'.old hb).at hlt
            subst hav
            have hiI : (i : Int) < (len' : Int) := by omega
            have hi0 : (0 : Int) ≤ (i : Int) := by omega
            have hgr : Hid (grOk j (ys.getD i gr0) ↔ ((1 ≤ k ∧ k ≤ 3) ∧ (0 ≤ l ∧ l < (j : Int)) ∧ (0 ≤ r ∧ r < (j : Int)))) := by rw [hx]; exact Iff.rfl
            clear hx hf
            go_upto_region 12 with fail
            have K5 := CS.made wr _ rfl #[.int .i64 k, .int .i64 l, .int .i64 r] 148
            have hbw := old_alloc hb (.cells #[.int .i64 k, .int .i64 l, .int .i64 r] 148)
            have KW := K.later hbw
            have n0 := K5.cell 0 _ rfl
            clear m1 m2 c0 c1 c2
            generalize wr.alloc (.cells #[.int .i64 k, .int .i64 l, .int .i64 r] 148) = W5 at *
            have SK := hd (sKind k W5)
            by_cases ok : (1 ≤ k ∧ k ≤ 3) ∧ (0 ≤ l ∧ l < (j : Int)) ∧ (0 ≤ r ∧ r < (j : Int))
            case neg =>
              have no : Hid (¬ P) := fun h => ok (hgr.out.1 ((GP.out.1 h).2.2 i hlt))
              have hcase : Hid (¬ (1 ≤ k ∧ k ≤ 3) ∨ ((1 ≤ k ∧ k ≤ 3) ∧ l < 0) ∨ ((1 ≤ k ∧ k ≤ 3) ∧ 0 ≤ l ∧ (j : Int) ≤ l) ∨ ((1 ≤ k ∧ k ≤ 3) ∧ 0 ≤ l ∧ l < (j : Int) ∧ r < 0) ∨ ((1 ≤ k ∧ k ≤ 3) ∧ 0 ≤ l ∧ l < (j : Int) ∧ 0 ≤ r ∧ (j : Int) ≤ r)) := hd (by omega)
              clear ok
              go_cut [92] (fun x wx => x = .bool true ∧ Below W5.heap.size W5 wx)
              case first =>
                clear GP no hne hre hgr hB hR' K
                go_wp2_with fail
                refine SK.out.mono ?_
                rintro e w2 ⟨⟨b, rfl, hb1⟩, hb2⟩
                replace hb1 := hd hb1
                have m1 := (KW.later hb2).cell 1 _ rfl
                have n1 := (K5.later hb2).cell 1 _ rfl
                have n2 := (K5.later hb2).cell 2 _ rfl
                rcases hcase.out with h | ⟨h, h1⟩ | ⟨h, h1, h2⟩ | ⟨h, h1, h2, h3⟩ | ⟨h, h1, h2, h3, h4⟩
                · cases b
                  case true => exact absurd (hb1.out.1 rfl) h
                  clear h
                  go_wp2
                  go_meet
                  exact ⟨by first | rfl | (simp; done) | (simp; omega), hb2⟩
                · cases b
                  case false => exact absurd (hb1.out.2 h) Bool.noConfusion
                  have q1 : decide (l < 0) = true := decide_eq_true (by omega)
                  clear h
                  go_wp2
                  go_meet
                  exact ⟨by first | rfl | (simp; done) | (simp; omega), hb2⟩
                · cases b
                  case false => exact absurd (hb1.out.2 h) Bool.noConfusion
                  have q1 : decide (l < 0) = false := decide_eq_false (by omega)
                  have q2 : decide ((j : Int) ≤ l) = true := decide_eq_true (by omega)
                  clear h
                  go_wp2
                  go_meet
                  exact ⟨by first | rfl | (simp; done) | (simp; omega), hb2⟩
                · cases b
                  case false => exact absurd (hb1.out.2 h) Bool.noConfusion
                  have q1 : decide (l < 0) = false := decide_eq_false (by omega)
                  have q2 : decide ((j : Int) ≤ l) = false := decide_eq_false (by omega)
                  have q3 : decide (r < 0) = true := decide_eq_true (by omega)
                  clear h
                  go_wp2
                  go_meet
                  exact ⟨by first | rfl | (simp; done) | (simp; omega), hb2⟩
                · cases b
                  case false => exact absurd (hb1.out.2 h) Bool.noConfusion
                  have q1 : decide (l < 0) = false := decide_eq_false (by omega)
                  have q2 : decide ((j : Int) ≤ l) = false := decide_eq_false (by omega)
                  have q3 : decide (r < 0) = false := decide_eq_false (by omega)
                  have q4 : decide ((j : Int) ≤ r) = true := decide_eq_true (by omega)
                  clear h
                  go_wp2
                  go_meet
                  exact ⟨by first | rfl | (simp; done) | (simp; omega), hb2⟩
              case rest =>
                obtain ⟨rfl, hbb⟩ := hcut
                go_wp2
                go_ret
                exact ⟨BoolIs.no no.out rfl, old_trans hB (old_trans hbw hbb)⟩
            have yes := hd (hgr.out.2 ok)
            go_cut [92] (fun x wx => x = .bool false ∧ Below W5.heap.size W5 wx)
            case first =>
              obtain ⟨h, ⟨h1, h2⟩, h3, h4⟩ := ok
              clear GP yes hne hre hgr hB hR' K
              have q1 : decide (l < 0) = false := decide_eq_false (by omega)
              have q2 : decide ((j : Int) ≤ l) = false := decide_eq_false (by omega)
              have q3 : decide (r < 0) = false := decide_eq_false (by omega)
              have q4 : decide ((j : Int) ≤ r) = false := decide_eq_false (by omega)
              go_wp2_with fail
              refine SK.out.mono ?_
              rintro e w2 ⟨⟨b, rfl, hb1⟩, hb2⟩
              have m1 := (KW.later hb2).cell 1 _ rfl
              have n1 := (K5.later hb2).cell 1 _ rfl
              have n2 := (K5.later hb2).cell 2 _ rfl
              cases b
              case false => exact absurd (hb1.2 h) Bool.noConfusion
              clear hb1 h
              go_wp2
              go_meet
              exact ⟨by first | rfl | (simp; done) | (simp; omega), hb2⟩
            case rest =>
              obtain ⟨rfl, hbb⟩ := hcut
              go_wp2
              go_roundw
              case rel => exact ⟨i + 1, by omega, by go_num, fun q hq => by
                by_cases e : q = i
                · rw [e]; exact yes.out
                · exact hre.out q (by omega), old_trans hbw hbb⟩
              case measure => simp [intOf]; omega
          · obtain rfl : i = len' := by omega
            have hni' : ¬ ((i : Int) < (i : Int)) := by omega
            have yes : Hid P := GP.out.2 ⟨lim, hne.out, hre.out⟩
            go_wp2
            go_ret
            exact ⟨BoolIs.yes yes.out rfl, old_trans hB hb⟩
end Go.Proofs.Ytmpckbgelkfgpaa
