/- Spans: SpanAll and SpanHull of the program and of the specification, bounds and what is told of them; nothing that was there is written. -/
import Derived.Test.YtpjagplloljefaaS1
import Derived.Deep.RegionHeld3
namespace Go.Proofs.Ytpjagplloljefaa
open Go.RowKit
set_option linter.unusedVariables false

theorem ret_sp {b b' : Bool} {x x' y y' : Int} (h : b = b') (hx : x = x') (hy : y = y') : Ending.returned (.agg #[.bool b, .int .i64 x, .int .i64 y]) = .returned (.agg #[.bool b', .int .i64 x', .int .i64 y']) := by rw [h, hx, hy]

/-- where the bounds of a span lie: nowhere, if it is empty or not ok -/
def Bnd (w : World) (n : Nat) (ok : Bool) (lo hi : Int) (v : Value) : Prop :=
  (ok = false ∧ v = .pointer none) ∨ (ok = true ∧ ∃ b, v = .pointer (some ⟨b, 0, none⟩) ∧ n ≤ b ∧ Cel2 w b (.int .i64 lo) (.int .i64 hi))
theorem Bnd.later {w w1 : World} {n : Nat} {ok : Bool} {lo hi : Int} {v : Value} (h : Bnd w n ok lo hi v) (hb : Below w.heap.size w w1) : Bnd w1 n ok lo hi v := by
  rcases h with h | ⟨h, b, e, g, c⟩
  · exact .inl h
  · exact .inr ⟨h, b, e, g, c.later hb⟩
theorem Bnd.drew {w : World} {n : Nat} {ok : Bool} {lo hi : Int} {v : Value} (h : Bnd w n ok lo hi v) : Bnd w.drew n ok lo hi v := h

/-- what is around both -/
def hullR (o1 o2 : Bool) : Bool := o1 || o2
def hullLo (o1 o2 : Bool) (a c : Int) : Int := if o1 then (if o2 then min a c else a) else c
def hullHi (o1 o2 : Bool) (b d : Int) : Int := if o1 then (if o2 then max b d else b) else d

end Go.Proofs.Ytpjagplloljefaa
