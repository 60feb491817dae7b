/- Spans: SpanAll and SpanHull of the program and of the specification; nothing that was there is written. -/
import Derived.Test.YtpjagplloljefaaS2
namespace Go.Proofs.Ytpjagplloljefaa
open Go.RowKit
set_option linter.unusedVariables false

theorem Bnd.zero {w : World} {n : Nat} {ok : Bool} {lo hi : Int} {v : Value} (h : Bnd w n ok lo hi v) : Bnd w 0 ok lo hi v := by
  rcases h with h | ⟨h, b, e, g, c⟩
  · exact .inl h
  · exact .inr ⟨h, b, e, Nat.zero_le _, c⟩
theorem six_later {w w1 : World} {p q : Nat} {x y z u v t : Value} (h : w.cell? ⟨p, 0, none⟩ = some x ∧ w.cell? ⟨p, 1, none⟩ = some y ∧ w.cell? ⟨p, 2, none⟩ = some z ∧ w.cell? ⟨q, 0, none⟩ = some u ∧ w.cell? ⟨q, 1, none⟩ = some v ∧ w.cell? ⟨q, 2, none⟩ = some t) (hb : Below w.heap.size w w1) :
    w1.cell? ⟨p, 0, none⟩ = some x ∧ w1.cell? ⟨p, 1, none⟩ = some y ∧ w1.cell? ⟨p, 2, none⟩ = some z ∧ w1.cell? ⟨q, 0, none⟩ = some u ∧ w1.cell? ⟨q, 1, none⟩ = some v ∧ w1.cell? ⟨q, 2, none⟩ = some t :=
  ⟨cell_later hb h.1, cell_later hb h.2.1, cell_later hb h.2.2.1, cell_later hb h.2.2.2.1, cell_later hb h.2.2.2.2.1, cell_later hb h.2.2.2.2.2⟩

def allB (wd : Int) : Bool := isW wd
/-- the hull of two ok spans -/
def hulB (wd : Int) (s1 s2 : Bool) (a b c d : Int) : Bool := sokB wd s1 a b && (sokB wd s2 c d && (s1 || s2))
def hulL (wd : Int) (s1 s2 : Bool) (a b c d : Int) : Int := if hulB wd s1 s2 a b c d then hullLo s1 s2 a c else 0
def hulH (wd : Int) (s1 s2 : Bool) (a b c d : Int) : Int := if hulB wd s1 s2 a b c d then hullHi s1 s2 b d else 0
theorem hul_no1 {wd : Int} {s1 s2 : Bool} {a b c d : Int} (h : sokB wd s1 a b = false) : hulB wd s1 s2 a b c d = false := by unfold hulB; rw [h]; rfl
theorem hul_no2 {wd : Int} {s1 s2 : Bool} {a b c d : Int} (h : sokB wd s2 c d = false) : hulB wd s1 s2 a b c d = false := by unfold hulB; rw [h]; cases sokB wd s1 a b <;> rfl
theorem hul_yes {wd : Int} {s1 s2 : Bool} {a b c d : Int} (h1 : sokB wd s1 a b = true) (h2 : sokB wd s2 c d = true) : hulB wd s1 s2 a b c d = (s1 || s2) := by unfold hulB; rw [h1, h2]; rfl
theorem sok_some {wd : Int} {s : Bool} {a b : Int} (h : sokB wd s a b = true) : (s && pokB wd a b) = s := by
  cases s
  · rfl
  · exact h
theorem sok_none {wd : Int} {s : Bool} {a b : Int} (h : s = false) (g : sokB wd s a b = true) : a = 0 ∧ b = 0 := by
  subst h
  unfold sokB at g
  simp at g
  exact g.2
theorem ret_hul {r : Bool} {x y : Int} {wd : Int} {s1 s2 : Bool} {a b c d : Int} (h : hulB wd s1 s2 a b c d = r) (hx : (if r then hullLo s1 s2 a c else 0) = x) (hy : (if r then hullHi s1 s2 b d else 0) = y) :
    Ending.returned (.agg #[.bool r, .int .i64 x, .int .i64 y]) = .returned (.agg #[.bool (hulB wd s1 s2 a b c d), .int .i64 (hulL wd s1 s2 a b c d), .int .i64 (hulH wd s1 s2 a b c d)]) := by
  unfold hulL hulH; rw [h, hx, hy]

end Go.Proofs.Ytpjagplloljefaa
