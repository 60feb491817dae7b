/- Stores into a new variable leave the boxes and rows that lay ahead. No condition. -/
import Derived.Test.YtekbhkklaogmnaaDoorE9
import Derived.Laws.CopyRow
import Derived.Deep.WholeRow
import Derived.Deep.AppendLies
import Derived.Deep.RegionHeld3
import Derived.Deep.RegionLaw
namespace Go.Proofs.YtekbhkklaogmnaaDoor
open Go.RowKit
set_option linter.unusedVariables false
set_option maxRecDepth 100000

theorem sz_le {W wx : World} {n : Nat} (hb : Below W.heap.size W wx) (h : n ≤ W.heap.size) : n ≤ wx.heap.size := Nat.le_trans h hb.size
theorem OB.mono {w : World} {b b' cv : Nat} {av : Option Addr} {ps : List (Int × Int)} (h : OB w b av cv ps) (hb : b' ≤ b) : OB w b' av cv ps := by
  obtain ⟨h1, h2, h3, h4 | ⟨g, h4, h5, h6⟩⟩ := h
  · exact ⟨h1, h2, h3, .inl h4⟩
  · exact ⟨h1, h2, h3, .inr ⟨g, h4, Nat.le_trans hb h5, h6⟩⟩
theorem OB.set {w : World} {base cv : Nat} {av : Option Addr} {ps : List (Int × Int)} (h : OB w base av cv ps) (b : Nat) (hne : ∀ q, av = some q → q.block ≠ b) (v : Value) : OB (w.setCell ⟨b, 0, none⟩ v) base av cv ps := by
  obtain ⟨h1, h2, h3, h4 | ⟨g, h4, h5, h6⟩⟩ := h
  · exact ⟨h1, h2, h3, .inl h4⟩
  · exact ⟨h1, h2, h3, .inr ⟨g, h4, h5, h6.other ⟨b, 0, none⟩ (hne _ h4) v⟩⟩
theorem InRow.set' {w : World} {a : Option Addr} {len cap : Nat} {ps : List (Int × Int)} (h : InRow w a len cap ps) (b : Nat) (v : Value) (hne : 0 < len → ∀ q, a = some q → q.block ≠ b) : InRow (w.setCell ⟨b, 0, none⟩ v) a len cap ps := by
  by_cases h0 : 0 < len
  · exact h.set ⟨b, 0, none⟩ v (hne h0)
  · exact ⟨h.1, h.2.1, h.2.2.1, h.2.2.2.1, .inl (by omega)⟩
theorem Cel1.aside {w : World} {c : Nat} {x : Value} (h : Cel1 w c x) (b : Nat) (hne : c ≠ b) (y : Value) : Cel1 (w.setCell ⟨b, 0, none⟩ y) c x := h.other ⟨b, 0, none⟩ hne y
theorem Below.aside {n : Nat} {w0 w : World} (h : Below n w0 w) (b : Nat) (hb : n ≤ b) (v : Value) : Below n w0 (w.setCell ⟨b, 0, none⟩ v) := h.setCell (p := ⟨b, 0, none⟩) hb v
end Go.Proofs.YtekbhkklaogmnaaDoor

/- A new box with another pair at one coordinate: by the program (make, copy, store) and by the specification (append). Conditions: 2^20 pairs at most. -/
namespace Go.Proofs.YtekbhkklaogmnaaDoor
open Go.RowKit
set_option linter.unusedVariables false
set_option maxRecDepth 100000

theorem run_copy_two {P : Program} (w : World) (dT sT ty elem : TypeId) (g dCap : Nat) (a : Addr) (n sCap : Nat) (cur : Array Value) (t : TypeId) (cs : List Value)
    (hu : P.underlying dT = some (.slice elem)) (hs : (P.info? elem).map (·.size) = some 2)
    (hg : w.heap[g]? = some (.cells cur t (0, 0))) (hn : cs.length = n * 2) (hc : cur.size = n * 2)
    (hsrc : ∀ j v, cs[j]? = some v → w.cell? (a.add j) = some v) (h1 : ∀ v ∈ cs, v.oneCell' = true) :
    (Builtin.copy_ #[dT, sT] ty #[.slice (some ⟨g, 0, none⟩) n dCap, .slice (some a) n sCap]).run P w = .ok (goInt n) (w.setRow g cs.toArray) := by
  have hl := run_loadCells_list (P := P) w a cs hsrc
  have hst := run_storeCells_at P g 0 t cs 0 cur w hg (by rw [hn, hc]; omega) h1
  have hd : cur.toList.drop (0 + 0 + cs.length) = [] := by
    apply List.drop_eq_nil_of_le
    rw [Array.length_toList, hc, hn]; omega
  rw [hd] at hst
  cases hq : P.info? elem with
  | none => simp [hq] at hs
  | some i =>
    have hi : i.size = 2 := by simpa [hq] using hs
    simp at hst
    simp [Builtin.copy_, run_underlying hu, Builtin.lenOf, Builtin.firstCells, sizeOf, typeInfo, hq, hi, ← hn, hl, hst]
theorem flat_one (ps : List (Int × Int)) : ∀ v ∈ flat ps, v.oneCell' = true := by
  intro v hv
  unfold flat at hv
  obtain ⟨p, -, hp⟩ := List.mem_flatMap.1 hv
  simp at hp
  rcases hp with rfl | rfl <;> rfl
theorem InRow.src {w : World} {b off len cap : Nat} {ps : List (Int × Int)} (h : InRow w (some ⟨b, off, none⟩) len cap ps) (h0 : 0 < len) : ∀ j v, (flat ps)[j]? = some v → w.cell? ((⟨b, off, none⟩ : Addr).add j) = some v := by
  intro j v hj
  have hl := h.1
  have hlt : j < ps.length * 2 := by
    have := (List.getElem?_eq_some_iff.1 hj).1
    rw [flat_length] at this; exact this
  have ad : (⟨b, off, none⟩ : Addr).add j = ⟨b, off + j, none⟩ := by
    by_cases h : j = 0
    · subst h; simp [Addr.add]
    · simp [Addr.add, h]
  rw [ad]
  rcases h.2.2.2.2 with h5 | ⟨b', off', e, -, hc⟩
  · omega
  obtain ⟨rfl, rfl⟩ : b = b' ∧ off = off' := by injection e with e; injection e with h1 h2; exact ⟨h1, h2⟩
  have hc2 := hc (j / 2) (by omega)
  have f := flat_get ps (j / 2) (by omega)
  by_cases hp : j % 2 = 0
  · have ej : j / 2 * 2 = j := by omega
    rw [ej] at hc2 f
    rw [hc2.1, ← f.1, hj]
  · have ej : j / 2 * 2 + 1 = j := by omega
    rw [ej] at hc2 f
    rw [hc2.2, ← f.2, hj]
theorem Row.flat (w : World) (ps : List (Int × Int)) (t : TypeId) : Row (w.alloc (.cells (flat ps).toArray t)) w.heap.size ps := by
  refine ⟨by simp, fun i hi => ?_⟩
  have f := flat_get ps i hi
  exact ⟨⟨by simp [f.1], by simp [f.2]⟩, by simp, by simp⟩

end Go.Proofs.YtekbhkklaogmnaaDoor

/- A new box with another pair at one coordinate, by the specification's loop over append. Conditions: 2^20 pairs at most. -/
namespace Go.Proofs.YtekbhkklaogmnaaDoor
open Go.RowKit
set_option linter.unusedVariables false
set_option maxRecDepth 100000

theorem Cel2.kept {w w' : World} {c : Nat} {x y : Value} {row : Option Nat} (h : Cel2 w c x y) (g : w.grownBy w' row) (hne : some c ≠ row) : Cel2 w' c x y := by
  obtain ⟨h1, h2, h3, h4, h5⟩ := h
  have e := g.block c h5 hne
  exact ⟨(World.cell?_of_block (a := ⟨c, 0, none⟩) e).trans h1, (World.cell?_of_block (a := ⟨c, 1, none⟩) e).trans h2, (World.frozen?_of_block (a := ⟨c, 0, none⟩) e).trans h3, (World.frozen?_of_block (a := ⟨c, 1, none⟩) e).trans h4, Nat.lt_of_lt_of_le h5 g.size⟩
def withX (ps : List (Int × Int)) (k : Nat) (x : Int) (i : Nat) : Int := if i = k then x else (ps.getD i (0, 0)).1
def withY (ps : List (Int × Int)) (k : Nat) (y : Int) (i : Nat) : Int := if i = k then y else (ps.getD i (0, 0)).2
theorem with_eq (ps : List (Int × Int)) (k : Nat) (x y : Int) : madeL ps.length (withX ps k x) (withY ps k y) = ps.set k (x, y) := by
  apply List.ext_getElem
  · simp [madeL]
  · intro i h1 h2
    have hi : i < ps.length := by simpa [madeL] using h1
    by_cases e : i = k
    · subst e; simp [madeL, withX, withY]
    · simp [madeL, withX, withY, e, Ne.symm e, List.getD_eq_getElem?_getD, hi]

end Go.Proofs.YtekbhkklaogmnaaDoor
