/- Spans: SpanAll and SpanHull of the program and of the specification, bounds and what is told of them; nothing that was there is written. -/
import Derived.Test.YtpjagplloljefaaGreatS1
import Derived.Deep.RegionHeld3
namespace Go.Proofs.YtpjagplloljefaaGreat
open Go.RowKit
set_option linter.unusedVariables false
set_option maxRecDepth 100000

theorem ret_sp {b b' : Bool} {x x' y y' : Int} (h : b = b') (hx : x = x') (hy : y = y') : Ending.returned (.agg #[.bool b, .int .i64 x, .int .i64 y]) = .returned (.agg #[.bool b', .int .i64 x', .int .i64 y']) := by rw [h, hx, hy]

/-- where the bounds of a span lie: nowhere, if it is empty or not ok -/
def Bnd (w : World) (n : Nat) (ok : Bool) (lo hi : Int) (v : Value) : Prop :=
  (ok = false ∧ v = .pointer none) ∨ (ok = true ∧ ∃ b, v = .pointer (some ⟨b, 0, none⟩) ∧ n ≤ b ∧ Cel2 w b (.int .i64 lo) (.int .i64 hi))
theorem Bnd.later {w w1 : World} {n : Nat} {ok : Bool} {lo hi : Int} {v : Value} (h : Bnd w n ok lo hi v) (hb : Below w.heap.size w w1) : Bnd w1 n ok lo hi v := by
  rcases h with h | ⟨h, b, e, g, c⟩
  · exact .inl h
  · exact .inr ⟨h, b, e, g, c.later hb⟩
theorem Bnd.drew {w : World} {n : Nat} {ok : Bool} {lo hi : Int} {v : Value} (h : Bnd w n ok lo hi v) : Bnd w.drew n ok lo hi v := h

set_option maxHeartbeats 1000000 in
theorem iBoundsOf (wd : Int) (b : Bool) (lo hi : Int) (w : World) :
    Calls Tryz.prog 55 #[.int .i64 wd, .agg #[.bool b, .int .i64 lo, .int .i64 hi]] w fun e w' => (∃ v, e = .returned v ∧ Bnd w' w.heap.size (b && pokB wd lo hi) lo hi v) ∧ Below w.heap.size w w' := by
  have c0 : (w.alloc (.cells #[.bool b, .int .i64 lo, .int .i64 hi] 24)).cell? ⟨w.heap.size, 0, none⟩ = some (.bool b) := by simp
  have c1 : (w.alloc (.cells #[.bool b, .int .i64 lo, .int .i64 hi] 24)).cell? ⟨w.heap.size, 1, none⟩ = some (.int .i64 lo) := by simp
  have c2 : (w.alloc (.cells #[.bool b, .int .i64 lo, .int .i64 hi] 24)).cell? ⟨w.heap.size, 2, none⟩ = some (.int .i64 hi) := by simp
  cases b
  · go_enter Tryz.func55, Tryz.ntmps55
    go_wp2
    go_ret
    exact ⟨⟨_, rfl, .inl ⟨rfl, rfl⟩⟩, (by repeat (first | exact Below.refl _ _ | refine Below.drew ?_ | refine old_alloc ?_ _ | refine old_trans ?_ (by assumption)))⟩
  have H := hd (iSpanOk wd true lo hi)
  have hp : sokB wd true lo hi = pokB wd lo hi := rfl
  rw [hp] at H
  generalize pokB wd lo hi = q at *
  go_enter Tryz.func55, Tryz.ntmps55
  go_wp2_with fail
  refine (H.out _).mono ?_
  rintro e w1 ⟨rfl, hb1⟩
  replace c0 := cell_later hb1 c0
  replace c1 := cell_later hb1 c1
  replace c2 := cell_later hb1 c2
  have sz := hb1.size
  simp at sz
  cases q
  · go_wp2
    go_ret
    exact ⟨⟨_, rfl, .inl ⟨rfl, rfl⟩⟩, (by repeat (first | exact Below.refl _ _ | refine Below.drew ?_ | refine old_alloc ?_ _ | refine old_trans ?_ (by assumption)))⟩
  go_wp2
  go_ret
  exact ⟨⟨_, rfl, .inr ⟨rfl, _, rfl, by omega, Cel2.made _ _ rfl _ _ _⟩⟩, (by repeat (first | exact Below.refl _ _ | refine Below.drew ?_ | refine old_alloc ?_ _ | refine old_trans ?_ (by assumption)))⟩

set_option maxHeartbeats 1000000 in
theorem iBSpan (n : Nat) (ok : Bool) (lo hi : Int) (v : Value) (w : World) (h : Bnd w n ok lo hi v) :
    Calls Tryz.prog 45 #[v] w fun e w' => e = .returned (.agg #[.bool ok, .int .i64 (if ok then lo else 0), .int .i64 (if ok then hi else 0)]) ∧ Below w.heap.size w w' := by
  rcases h with ⟨rfl, rfl⟩ | ⟨rfl, b, rfl, -, c⟩
  · go_enter Tryz.func45, Tryz.ntmps45
    go_wp2
    refine bodyPost_ret (v := .agg #[.bool false, .int .i64 0, .int .i64 0]) ?_ rfl ⟨rfl, (by repeat (first | exact Below.refl _ _ | refine Below.drew ?_ | refine Below.setCell ?_ (by first | (simp; done) | omega | (simp; omega)) _ | refine old_alloc ?_ _ | refine old_trans ?_ (by assumption)))⟩
    simp [results, Tryz.results45, go_sem]
  · have c0 := c.1
    have c1 := c.2.1
    have cz := c.2.2.2.2
    have cn := Nat.ne_of_lt cz
    have co := Nat.ne_of_gt cz
    go_enter Tryz.func45, Tryz.ntmps45
    go_wp2
    go_region
    all_goals
      go_wp2
      refine bodyPost_ret (v := .agg #[.bool true, .int .i64 lo, .int .i64 hi]) ?_ rfl ⟨rfl, (by repeat (first | exact Below.refl _ _ | refine Below.drew ?_ | refine Below.setCell ?_ (by first | (simp; done) | omega | (simp; omega)) _ | refine old_alloc ?_ _ | refine old_trans ?_ (by assumption)))⟩
      simp [results, Tryz.results45, go_sem]

/-- what is around both -/
def hullR (o1 o2 : Bool) : Bool := o1 || o2
def hullLo (o1 o2 : Bool) (a c : Int) : Int := if o1 then (if o2 then min a c else a) else c
def hullHi (o1 o2 : Bool) (b d : Int) : Int := if o1 then (if o2 then max b d else b) else d

set_option maxHeartbeats 4000000 in
theorem iBHull (n : Nat) (o1 o2 : Bool) (a b c d : Int) (v u : Value) (w : World) (h1 : Bnd w n o1 a b v) (h2 : Bnd w n o2 c d u) (hn : n ≤ w.heap.size) :
    Calls Tryz.prog 63 #[v, u] w fun e w' => (∃ x, e = .returned x ∧ Bnd w' n (o1 || o2) (hullLo o1 o2 a c) (hullHi o1 o2 b d) x) ∧ Below w.heap.size w w' := by
  rcases h1 with ⟨rfl, rfl⟩ | ⟨rfl, p, rfl, hp, K⟩
  · have g : Bnd w n (false || o2) (hullLo false o2 a c) (hullHi false o2 b d) u := by rw [Bool.false_or]; exact h2
    go_enter Tryz.func63, Tryz.ntmps63
    go_wp2
    go_ret
    exact ⟨⟨_, rfl, g⟩, Below.refl _ _⟩
  rcases h2 with ⟨rfl, rfl⟩ | ⟨rfl, q, rfl, hq, M⟩
  · have g : Bnd w n (true || false) (hullLo true false a c) (hullHi true false b d) (.pointer (some ⟨p, 0, none⟩)) := .inr ⟨rfl, p, rfl, hp, K⟩
    go_enter Tryz.func63, Tryz.ntmps63
    go_wp2
    go_ret
    exact ⟨⟨_, rfl, g⟩, Below.refl _ _⟩
  have hx : Hid (a ≤ c → hullLo true true a c = a) := fun h => by unfold hullLo; simp; omega
  have hy : Hid (c < a → hullLo true true a c = c) := fun h => by unfold hullLo; simp; omega
  have hu : Hid (b < d → hullHi true true b d = d) := fun h => by unfold hullHi; simp; omega
  have hv : Hid (d ≤ b → hullHi true true b d = b) := fun h => by unfold hullHi; simp; omega
  generalize hullLo true true a c = x at *
  generalize hullHi true true b d = y at *
  have k0 := K.1
  have k1 := K.2.1
  have m0 := M.1
  have m1 := M.2.1
  rcases Int.lt_or_le c a with t1 | t1 <;> rcases Int.lt_or_le b d with t2 | t2
  all_goals
    have ex := by first | exact hx.out t1 | exact hy.out t1
    have ey := by first | exact hu.out t2 | exact hv.out t2
    subst ex ey
    clear hx hy hu hv
    go_enter Tryz.func63, Tryz.ntmps63
    go_wp2
    go_region
    all_goals
      go_wp2
      go_ret
      exact ⟨⟨_, rfl, .inr ⟨rfl, _, rfl, by simpa using hn, Cel2.made _ _ (by simp) _ _ _⟩⟩, (by repeat (first | exact Below.refl _ _ | refine Below.drew ?_ | refine old_alloc ?_ _ | refine old_trans ?_ (by assumption)))⟩
end Go.Proofs.YtpjagplloljefaaGreat
