/- Boxes that the walks of the laws hold: what is theirs, and what abides a mark set elsewhere. No condition. -/
import Derived.Test.YtekbhkklaogmnaaPK12
import Derived.Test.YtekbhkklaogmnaaPK13
import Derived.Deep.RegionHeld3
namespace Go.Proofs.Ytekbhkklaogmnaa
open Go.RowKit
set_option linter.unusedVariables false
set_option maxRecDepth 100000

def ownB (av : Option Addr) : Option Nat := av.map (·.block)
/-- a box in memory of its own, at or beyond base; or an empty one -/
def OB (w : World) (base : Nat) (av : Option Addr) (cv : Nat) (ps : List (Int × Int)) : Prop :=
  Fits ps ∧ ps.length ≤ cv ∧ cv ≤ maxLen ∧ ((av = none ∧ ps = []) ∨ ∃ g, av = some ⟨g, 0, none⟩ ∧ base ≤ g ∧ Row w g ps)
section
variable {w w' : World} {base cv : Nat} {av : Option Addr} {ps : List (Int × Int)}
theorem OB.inRow (h : OB w base av cv ps) : InRow w av ps.length cv ps := by
  obtain ⟨h1, h2, h3, ⟨rfl, rfl⟩ | ⟨g, rfl, h4, h5⟩⟩ := h
  · exact ⟨rfl, h2, h3, h1, .inl rfl⟩
  · exact h5.inRow h1 h2 h3
theorem OB.later (h : OB w base av cv ps) (k : Below w.heap.size w w') : OB w' base av cv ps := by
  obtain ⟨h1, h2, h3, h4 | ⟨g, h4, h5, h6⟩⟩ := h
  · exact ⟨h1, h2, h3, .inl h4⟩
  · exact ⟨h1, h2, h3, .inr ⟨g, h4, h5, h6.old k⟩⟩
theorem OB.alloc (h : OB w base av cv ps) (o : Obj) : OB (w.alloc o) base av cv ps := h.later ((Below.refl _ _).alloc (Nat.le_refl _) o)
theorem OB.drew (h : OB w base av cv ps) : OB w.drew base av cv ps := h
theorem OB.kept {row : Option Nat} (h : OB w base av cv ps) (g : w.grownBy w' row) (hne : ∀ q, av = some q → some q.block ≠ row) : OB w' base av cv ps := by
  obtain ⟨h1, h2, h3, h4 | ⟨c, h4, h5, h6⟩⟩ := h
  · exact ⟨h1, h2, h3, .inl h4⟩
  · exact ⟨h1, h2, h3, .inr ⟨c, h4, h5, h6.kept g (hne _ h4)⟩⟩
theorem OB.lt (h : OB w base av cv ps) : ∀ q, av = some q → q.block < w.heap.size := by
  intro q e
  obtain ⟨h1, h2, h3, ⟨rfl, _⟩ | ⟨c, rfl, h5, h6⟩⟩ := h
  · cases e
  · cases e; exact h6.1
theorem OB.ge (h : OB w base av cv ps) : ∀ q, av = some q → base ≤ q.block := by
  intro q e
  obtain ⟨h1, h2, h3, ⟨rfl, _⟩ | ⟨c, rfl, h5, h6⟩⟩ := h
  · cases e
  · cases e; exact h5
/-- what lay ahead of the box is not its -/
theorem OB.ne_old (h : OB w base av cv ps) {c : Nat} (hc : c < base) : some c ≠ ownB av := by
  intro e
  cases av with
  | none => cases e
  | some q => have := h.ge q rfl; simp [ownB] at e; omega
theorem ne_young {c : Nat} (h : ∀ q, av = some q → q.block < c) : some c ≠ ownB av := by
  intro e
  cases av with
  | none => cases e
  | some q => have := h q rfl; simp [ownB] at e; omega
theorem OB.sep (h : OB w base av cv ps) {a : Option Addr} (hc : ∀ q, a = some q → q.block < base) : ∀ q, a = some q → some q.block ≠ ownB av := fun q e => h.ne_old (hc q e)
theorem OB.sep' (h : OB w base av cv ps) {a : Option Addr} (hc : ∀ q, a = some q → q.block < base) : ∀ q, av = some q → some q.block ≠ ownB a := by
  intro q e e2
  have := h.ge q e
  cases a with
  | none => cases e2
  | some p => have := hc p rfl; simp [ownB] at e2; omega
theorem InRow.far {a : Option Addr} {len cap : Nat} (h : InRow w a len cap ps) : 0 < len → ∀ q, a = some q → q.block < w.heap.size := by
  intro h0 q e
  rcases h.2.2.2.2 with h5 | ⟨b, off, q1, q2, -⟩
  · omega
  · rw [q1] at e; cases e; exact q2
theorem InRow.kept' {a : Option Addr} {len cap : Nat} {row : Option Nat} (h : InRow w a len cap ps) (g : w.grownBy w' row) (hne : 0 < len → ∀ q, a = some q → some q.block ≠ row) : InRow w' a len cap ps := by
  by_cases h0 : 0 < len
  · exact h.kept g (hne h0)
  · exact ⟨h.1, h.2.1, h.2.2.1, h.2.2.2.1, .inl (by omega)⟩
end
theorem Below.marked {n : Nat} {w0 w w' : World} {base cv : Nat} {av : Option Addr} {ps : List (Int × Int)} (hb : Below n w0 w) (h : OB w base av cv ps) (g : w.grownBy w' (ownB av)) (hn : n ≤ base) (h0 : n ≤ w.heap.size) : Below n w0 w' :=
  hb.grown g h0 (fun k e => by
    cases av with
    | none => cases e
    | some q => have := h.ge q rfl; simp [ownB] at e; omega)

theorem fits_nil : Fits [] := fun p hp => absurd hp (by simp)
def resL (r : Bool) (ps : List (Int × Int)) : List (Int × Int) := if r then ps else []
theorem toBoxO (a : Option Addr) (cap : Nat) (ps : List (Int × Int)) (w : World) (hR : InRow w a ps.length cap ps) (hl : ps.length ≤ 1048576) :
    Calls Try.prog 6 #[.agg #[.slice a ps.length cap]] w fun e w' => (∃ av cv, e = .returned (.agg #[.slice av ps.length cv]) ∧ OB w' w.heap.size av cv ps) ∧ Below w.heap.size w w' := by
  refine (lToBox a ps.length cap ps w hR hl).mono ?_
  rintro e w' ⟨⟨b, he, hb, hr⟩, h⟩
  exact ⟨⟨_, _, he, hR.2.2.2.1, Nat.le_refl _, Nat.le_trans hR.2.1 hR.2.2.1, .inr ⟨b, rfl, hb, hr⟩⟩, h⟩
theorem lEqO (av av' : Option Addr) (cv cv' base base' : Nat) (ps : List (Int × Int)) (w : World) (h : OB w base av cv ps) (h' : OB w base' av' cv' ps) :
    Calls Try.prog 9 #[.agg #[.slice av ps.length cv], .agg #[.slice av' ps.length cv']] w fun e w' => e = .returned (.bool true) ∧ Below w.heap.size w w' :=
  lEqBox av av' ps.length cv cv' ps w h.inRow h'.inRow
theorem lMarkO (base : Nat) (av : Option Addr) (cv : Nat) (ps : List (Int × Int)) (k : Int) (w : World) (h : OB w base av cv ps) (hl : ps.length ≤ 1048576) (k0 : 0 ≤ k) (k1 : k ≤ 16777216) :
    Calls Try.prog 10 #[.agg #[.slice av ps.length cv], .int .i64 k] w fun e w' => e = .returned (.int .i64 (k + 2 * ps.length)) ∧ OB w' base av cv (marks k ps.length) ∧ w.grownBy w' (ownB av) := by
  obtain ⟨h1, h2, h3, ⟨rfl, rfl⟩ | ⟨g, rfl, h4, h5⟩⟩ := h
  · refine (lMarkBoxNone none cv k w).mono ?_
    rintro e w' ⟨rfl, hb⟩
    exact ⟨by simp, ⟨fits_nil, h2, h3, .inl ⟨rfl, rfl⟩⟩, grown_belowE hb⟩
  · refine (lMarkBox g cv ps k w h5 hl k0 k1).mono ?_
    rintro e w' ⟨he, hr, hg⟩
    exact ⟨he, ⟨marks_fits k0 k1 hl, by rw [marks_length]; exact h2, h3, .inr ⟨g, rfl, h4, hr⟩⟩, hg⟩
theorem lHeldO (base : Nat) (av : Option Addr) (cv n : Nat) (k : Int) (w : World) (h : OB w base av cv (marks k n)) (hl : n ≤ 1048576) (k0 : 0 ≤ k) (k1 : k ≤ 16777216) :
    Calls Try.prog 11 #[.agg #[.slice av n cv], .int .i64 k] w fun e w' => e = .returned (.int .i64 (k + 2 * n)) ∧ Below w.heap.size w w' := by
  have hi := h.inRow
  rw [marks_length] at hi
  exact lHeldBox av cv n k w hi hl k0 k1

end Go.Proofs.Ytekbhkklaogmnaa

/- The boxes that the program and the specification make, as the laws hold them. No condition. -/
namespace Go.Proofs.Ytekbhkklaogmnaa
open Go.RowKit
set_option linter.unusedVariables false
set_option maxRecDepth 100000

theorem res_len {r : Bool} {ps : List (Int × Int)} {n : Nat} (h : ps.length ≤ n) : (resL r ps).length ≤ n := by
  unfold resL
  split
  · exact h
  · exact Nat.zero_le _
end Go.Proofs.Ytekbhkklaogmnaa

/- What two boxes have in common, by the program. Conditions: 2^20 pairs at most. -/
namespace Go.Proofs.Ytekbhkklaogmnaa
open Go.RowKit
set_option linter.unusedVariables false
set_option maxRecDepth 100000

theorem fits_at {ps : List (Int × Int)} (h : Fits ps) {k : Nat} (hk : k < ps.length) : (-9223372036854775808 ≤ (ps.getD k (0, 0)).1 ∧ (ps.getD k (0, 0)).1 ≤ 9223372036854775807) ∧ -9223372036854775808 ≤ (ps.getD k (0, 0)).2 ∧ (ps.getD k (0, 0)).2 ≤ 9223372036854775807 := by
  have e : ps.getD k (0, 0) = ps[k] := by rw [List.getD_eq_getElem?_getD, List.getElem?_eq_getElem hk]; rfl
  rw [e]
  exact h _ (List.getElem_mem _)
end Go.Proofs.Ytekbhkklaogmnaa
