/- What the specification's loops over append leave: a list that grew by one pair a round, in memory of its own. Conditions: 2^20 pairs at most. -/
import Derived.Test.YtekbhkklaogmnaaDoorE2
import Derived.RangeFuncBox
import Derived.Maps.AppendAt
namespace Go.Proofs.YtekbhkklaogmnaaDoor
open Go.RowKit
set_option linter.unusedVariables false
set_option maxRecDepth 100000

def flat (ps : List (Int × Int)) : List Value := ps.flatMap (fun p => [.int .i64 p.1, .int .i64 p.2])
theorem flat_length (ps : List (Int × Int)) : (flat ps).length = ps.length * 2 := by
  induction ps with
  | nil => rfl
  | cons p ps ih => show (_ :: _ :: flat ps).length = _; simp [ih]; omega
theorem flat_snoc (ps : List (Int × Int)) (x y : Int) : flat (ps ++ [(x, y)]) = flat ps ++ [.int .i64 x, .int .i64 y] := by simp [flat]
theorem flat_get : ∀ (ps : List (Int × Int)) (i : Nat), i < ps.length → (flat ps)[i * 2]? = some (.int .i64 (ps.getD i (0, 0)).1) ∧ (flat ps)[i * 2 + 1]? = some (.int .i64 (ps.getD i (0, 0)).2)
  | [], _, h => absurd h (by simp)
  | p :: ps, 0, _ => ⟨rfl, rfl⟩
  | p :: ps, i + 1, h => by
    have := flat_get ps i (by simpa using h)
    show ((_ :: _ :: flat ps) : List Value)[(i + 1) * 2]? = _ ∧ ((_ :: _ :: flat ps) : List Value)[(i + 1) * 2 + 1]? = _
    rw [show (i + 1) * 2 = i * 2 + 1 + 1 by omega, show i * 2 + 1 + 1 + 1 = (i * 2 + 1) + 1 + 1 by omega]
    simpa using this
/-- a list that is being made -/
def Grows (w : World) (base : Nat) (v : Value) (ps : List (Int × Int)) : Prop := w.ownsRow base 39 2 v ps.length (flat ps)
theorem Grows.nil (w : World) (base : Nat) : Grows w base (.slice none 0 0) [] := World.ownsRow_nil w base _ _
theorem Grows.kept {w w' : World} {base : Nat} {v : Value} {ps : List (Int × Int)} {row : Option Nat} (h : Grows w base v ps) (g : w.grownBy w' row) (hne : ∀ b, row = some b → b < base) : Grows w' base v ps := by
  refine World.ownsRow.kept h g ?_
  cases hv : v.ownBlock with
  | none => exact .inl rfl
  | some k =>
    refine .inr (fun e => ?_)
    have := hne k e.symm
    have := (World.ownsRow.lt h k hv).1
    omega
theorem grown_belowE {w w' : World} (h : Below w.heap.size w w') : w.grownBy w' none := ⟨h.1, h.2, h.3, h.4, fun k hk _ => h.5 k hk⟩
theorem Grows.later {w w' : World} {base : Nat} {v : Value} {ps : List (Int × Int)} (h : Grows w base v ps) (g : Below w.heap.size w w') : Grows w' base v ps := h.kept (grown_belowE g) (by simp)
theorem Grows.alloc {w : World} {base : Nat} {v : Value} {ps : List (Int × Int)} (h : Grows w base v ps) (o : Obj) : Grows (w.alloc o) base v ps := h.later ((Below.refl _ _).alloc (Nat.le_refl _) o)
theorem Grows.set {w : World} {base b : Nat} {v : Value} {ps : List (Int × Int)} (h : Grows w base v ps) (hb : b < base) (u : Value) : Grows (w.setCell ⟨b, 0, none⟩ u) base v ps := h.kept (grownBy_setCell' w b u) (fun c e => by cases e; exact hb)
theorem Grows.far {w : World} {base : Nat} {v : Value} {ps : List (Int × Int)} (h : Grows w base v ps) {c : Nat} (hc : c < base) : some c ≠ v.ownBlock := fun e => by have := (World.ownsRow.lt h c e.symm).1; omega
theorem Grows.row {w : World} {base : Nat} {v : Value} {ps : List (Int × Int)} (h : Grows w base v ps) (hp : 0 < ps.length) : ∃ g cap, v = .slice (some ⟨g, 0, none⟩) ps.length cap ∧ base ≤ g ∧ ps.length ≤ cap ∧ cap ≤ maxLen ∧ Row w g ps := by
  have h' := h
  rcases h.2 with ⟨_, h0⟩ | ⟨g, cap, cur, rfl, hb, hg, h1, h2, -, -⟩
  · omega
  refine ⟨g, cap, rfl, hb, h1, h2, (Array.getElem?_eq_some_iff.1 hg).1, fun i hi => ?_⟩
  have f := flat_get ps i hi
  exact ⟨⟨(World.ownsRow.cellAt h' (i * 2) (by omega)).trans f.1, (World.ownsRow.cellAt h' (i * 2 + 1) (by omega)).trans f.2⟩, World.ownsRow.frozenAt h' _, World.ownsRow.frozenAt h' _⟩
theorem cells_two (w : World) (b : Nat) (hb : b = w.heap.size) (x y : Value) (t : TypeId) : ∀ j u, [x, y][j]? = some u → (w.alloc (.cells #[x, y] t)).cell? ((⟨b, 0, none⟩ : Addr).add j) = some u := by
  subst hb
  intro j u h
  match j, h with
  | 0, h => simp at h; subst h; simp [Addr.add]
  | 1, h => simp at h; subst h; simp [Addr.add]
  | j + 2, h => simp at h
theorem madeL_snoc (k : Nat) (x y : Nat → Int) : madeL (k + 1) x y = madeL k x y ++ [(x k, y k)] := by simp [madeL, List.range_succ]
/-- a box that was made, or none -/
def BoxRes (n0 : Nat) (w' : World) (e : Ending) (r : Bool) (ps : List (Int × Int)) : Prop :=
  (r = true ∧ ∃ g cap, e = .returned (.tuple #[.agg #[.slice (some ⟨g, 0, none⟩) ps.length cap], .bool true]) ∧ n0 ≤ g ∧ ps.length ≤ cap ∧ cap ≤ maxLen ∧ Row w' g ps) ∨
  (r = false ∧ e = .returned (.tuple #[.agg #[.slice none 0 0], .bool false]))
end Go.Proofs.YtekbhkklaogmnaaDoor
