/- Lists of whole numbers: what lies in memory, what a law's own copy, comparison, mark and look do. Conditions: lists of 2^20 numbers at most. -/
import Derived.Test.YtafpjgojmpjajaaRows
import Derived.WalkKit
import Derived.WalkSpells
import Derived.WalkLawsBesides
import Derived.ProofKit
import Derived.OpenShut
import Derived.OwnWalk
import Derived.BigQuiet
import Derived.Deep.QuietTactic
import Derived.RangeFuncBox
import Derived.Maps.AppendAt
import Derived.Lib.SmallJoins
import Derived.ChangeOld
import Derived.ShutString
namespace Go.Proofs.Ytafpjgojmpjajaa
open Go.ChangeShapes Go.WideShapes Go.ChangeAt Go.RowKit
set_option linter.unusedVariables false
set_option maxRecDepth 100000

theorem hd {p : Prop} (h : p) : Hid p := h
theorem old_alloc {a b : World} (h : Below a.heap.size a b) (o : Obj) : Below a.heap.size a (b.alloc o) := h.alloc h.size o
theorem old_trans {a b c : World} (h : Below a.heap.size a b) (k : Below b.heap.size b c) : Below a.heap.size a c := h.trans (k.mono h.size)
theorem grown_set {w w' : World} {b : Nat} (h : w.grownBy w' (some b)) (i : Nat) (v : Value) : w.grownBy (w'.setCell ⟨b, i, none⟩ v) (some b) :=
  ⟨h.os, h.tape, h.output, by simpa [World.setCell] using h.size, fun k hk hne => (Below.heap_setCell _ _ _ _ (by intro e; exact hne (by rw [e]))).trans (h.block k hk hne)⟩
theorem grown_below {w w' : World} (h : Below w.heap.size w w') : w.grownBy w' none := ⟨h.1, h.2, h.3, h.4, fun k hk _ => h.5 k hk⟩

/-- numbers in a block of their own -/
def IRow (w : World) (b : Nat) (xs : List Int) : Prop :=
  b < w.heap.size ∧ ∀ i, i < xs.length → w.cell? ⟨b, i, none⟩ = some (.int .i64 (xs.getD i 0)) ∧ w.frozen? ⟨b, i, none⟩ = false
def IFits (xs : List Int) : Prop := ∀ x ∈ xs, -9223372036854775808 ≤ x ∧ x ≤ 9223372036854775807
/-- numbers that lie somewhere -/
def InI (w : World) (a : Option Addr) (len cap : Nat) (xs : List Int) : Prop :=
  xs.length = len ∧ len ≤ cap ∧ cap ≤ maxLen ∧ IFits xs ∧
  (len = 0 ∨ ∃ b off : Nat, a = some ⟨b, off, none⟩ ∧ b < w.heap.size ∧ ∀ i, i < len → w.cell? ⟨b, off + i, none⟩ = some (.int .i64 (xs.getD i 0)))
theorem InI.old {w w' : World} {a : Option Addr} {len cap : Nat} {xs : List Int} (h : InI w a len cap xs) (b : Below w.heap.size w w') : InI w' a len cap xs := by
  obtain ⟨h1, h2, h3, h4, h5⟩ := h
  refine ⟨h1, h2, h3, h4, ?_⟩
  rcases h5 with h5 | ⟨bb, off, q1, q2, q3⟩
  · exact .inl h5
  · exact .inr ⟨bb, off, q1, Nat.lt_of_lt_of_le q2 b.size, fun i hi => (b.cell (p := ⟨bb, off + i, none⟩) q2).trans (q3 i hi)⟩
theorem InI.alloc {w : World} {a : Option Addr} {len cap : Nat} {xs : List Int} (h : InI w a len cap xs) (o : Obj) : InI (w.alloc o) a len cap xs := h.old ((Below.refl _ _).alloc (Nat.le_refl _) o)
theorem InI.drew {w : World} {a : Option Addr} {len cap : Nat} {xs : List Int} (h : InI w a len cap xs) : InI w.drew a len cap xs := h
theorem getD_mem {xs : List Int} {k : Nat} (hk : k < xs.length) : xs.getD k 0 ∈ xs := by
  have e2 : xs.getD k 0 = xs[k]'hk := by rw [List.getD_eq_getElem?_getD, List.getElem?_eq_getElem hk]; rfl
  rw [e2]
  exact List.getElem_mem _
theorem InI.at {w : World} {a : Option Addr} {len cap : Nat} {xs : List Int} (h : InI w a len cap xs) {k : Nat} (hk : k < len) : ∃ (b off : Nat) (x : Int), a = some ⟨b, off, none⟩ ∧ b < w.heap.size ∧ xs.getD k 0 = x ∧ (-9223372036854775808 ≤ x ∧ x ≤ 9223372036854775807) ∧ w.cell? ⟨b, off + k, none⟩ = some (.int .i64 x) := by
  rcases h.2.2.2.2 with h0 | ⟨b, off, e, hb, hc⟩
  · omega
  · exact ⟨b, off, _, e, hb, rfl, h.2.2.2.1 _ (getD_mem (by rw [h.1]; exact hk)), hc k hk⟩
theorem InI.kept {w w' : World} {a : Option Addr} {len cap : Nat} {xs : List Int} {row : Option Nat} (h : InI w a len cap xs) (g : w.grownBy w' row) (hne : 0 < len → ∀ q, a = some q → some q.block ≠ row) : InI w' a len cap xs := by
  obtain ⟨h1, h2, h3, h4, h5⟩ := h
  refine ⟨h1, h2, h3, h4, ?_⟩
  by_cases h0 : len = 0
  · exact .inl h0
  rcases h5 with h5 | ⟨b, off, q1, q2, q3⟩
  · exact .inl h5
  · refine .inr ⟨b, off, q1, Nat.lt_of_lt_of_le q2 g.size, fun i hi => ?_⟩
    have e := g.block b q2 (hne (by omega) _ q1)
    exact (World.cell?_of_block (a := ⟨b, off + i, none⟩) e).trans (q3 i hi)
theorem InI.far {w : World} {a : Option Addr} {len cap : Nat} {xs : List Int} (h : InI w a len cap xs) : 0 < len → ∀ q, a = some q → q.block < w.heap.size := by
  intro h0 q e
  rcases h.2.2.2.2 with h5 | ⟨b, off, q1, q2, -⟩
  · omega
  · rw [q1] at e; cases e; exact q2
theorem InI.len {w : World} {a : Option Addr} {len cap : Nat} {xs : List Int} (h : InI w a len cap xs) : len ≤ 9223372036854775807 := by
  have := Nat.le_trans h.2.1 h.2.2.1
  unfold maxLen at this
  omega
theorem IRow.old {w w' : World} {b : Nat} {xs : List Int} (h : IRow w b xs) (k : Below w.heap.size w w') : IRow w' b xs :=
  ⟨Nat.lt_of_lt_of_le h.1 k.size, fun i hi => ⟨(k.cell (p := ⟨b, i, none⟩) h.1).trans (h.2 i hi).1, (k.frozen (p := ⟨b, i, none⟩) h.1).trans (h.2 i hi).2⟩⟩
theorem IRow.inI {w : World} {b cap : Nat} {xs : List Int} (h : IRow w b xs) (f : IFits xs) (h1 : xs.length ≤ cap) (h2 : cap ≤ maxLen) : InI w (some ⟨b, 0, none⟩) xs.length cap xs :=
  ⟨rfl, h1, h2, f, .inr ⟨b, 0, rfl, h.1, fun i hi => by rw [Nat.zero_add]; exact (h.2 i hi).1⟩⟩
theorem IRow.at {w : World} {b : Nat} {xs : List Int} (h : IRow w b xs) {k : Nat} (hk : k < xs.length) : ∃ x : Int, xs.getD k 0 = x ∧ w.cell? ⟨b, k, none⟩ = some (.int .i64 x) ∧ w.frozen? ⟨b, k, none⟩ = false := ⟨_, rfl, (h.2 k hk).1, (h.2 k hk).2⟩
theorem IRow.set {w : World} {b : Nat} {xs : List Int} (h : IRow w b xs) (k : Nat) (hk : k < xs.length) (x : Int) : IRow (w.setCell ⟨b, k, none⟩ (.int .i64 x)) b (xs.set k x) := by
  refine ⟨by simpa [World.setCell] using h.1, fun i hi => ?_⟩
  rw [List.length_set] at hi
  obtain ⟨h1, h3⟩ := h.2 i hi
  by_cases e : i = k
  · subst e
    have eg : (xs.set i x).getD i 0 = x := by simp [List.getD_eq_getElem?_getD, hk]
    rw [eg]
    exact ⟨World.cell?_setCell_same _ _ _ h1, by simpa using h3⟩
  · have eg : (xs.set k x).getD i 0 = xs.getD i 0 := by simp [List.getD_eq_getElem?_getD, Ne.symm e]
    rw [eg]
    refine ⟨?_, by simpa using h3⟩
    rw [World.cell?_setCell_other _ _ _ _ (by intro h; injection h with _ h2; omega)]; exact h1
theorem IRow.kept {w w' : World} {c : Nat} {xs : List Int} {row : Option Nat} (h : IRow w c xs) (g : w.grownBy w' row) (hne : some c ≠ row) : IRow w' c xs := by
  refine ⟨Nat.lt_of_lt_of_le h.1 g.size, fun i hi => ?_⟩
  have e := g.block c h.1 hne
  exact ⟨(World.cell?_of_block (a := ⟨c, i, none⟩) e).trans (h.2 i hi).1, (World.frozen?_of_block (a := ⟨c, i, none⟩) e).trans (h.2 i hi).2⟩
theorem IRow.made (w : World) (n : Nat) (t : TypeId) : IRow (w.alloc (.cells (madeCells #[.int .i64 0] (n * 1)) t)) w.heap.size (List.replicate n 0) := by
  refine ⟨by simp, fun i hi => ?_⟩
  rw [List.length_replicate] at hi
  have eg : (List.replicate n (0 : Int)).getD i 0 = 0 := by simp [List.getD_eq_getElem?_getD, hi]
  rw [eg]
  have e0 : (madeCells #[Value.int IntKind.i64 0] (n * 1))[i]? = some (.int .i64 0) := by
    simp [madeCells, show i < n by omega, Nat.mod_one]
  exact ⟨by simpa using e0, by simp⟩

theorem infoInt : (Try.prog.info? 3).map (fun i => (i.zero, i.size, i.bytes)) = some (some (.int .i64 0), 1, 8) := by kernel_rfl
/-- the first k numbers are these -/
def IUpto (k : Nat) (qs xs : List Int) : Prop := qs.length = xs.length ∧ ∀ i, i < k → qs.getD i 0 = xs.getD i 0
theorem IUpto.zero {qs xs : List Int} (hp : qs.length = xs.length) : IUpto 0 qs xs := ⟨hp, fun i h => by omega⟩
theorem IUpto.step {k : Nat} {qs xs : List Int} (h : IUpto k qs xs) (hk : k < xs.length) : IUpto (k + 1) (qs.set k (xs.getD k 0)) xs := by
  refine ⟨by simpa using h.1, fun i hi => ?_⟩
  by_cases e : i = k
  · subst e; simp [List.getD_eq_getElem?_getD, h.1, hk]
  · rw [← h.2 i (by omega)]; simp [List.getD_eq_getElem?_getD, Ne.symm e]
theorem IUpto.all {qs xs : List Int} (h : IUpto xs.length qs xs) : qs = xs := by
  apply List.ext_getElem h.1
  intro i h1 h2
  have := h.2 i h2
  simpa [List.getD_eq_getElem?_getD, h1, h2] using this

def imarks (k : Int) (n : Nat) : List Int := (List.range n).map (fun (i : Nat) => k + (i : Int))
theorem imarks_length (k : Int) (n : Nat) : (imarks k n).length = n := by simp [imarks]
theorem imarks_getD (k : Int) {n i : Nat} (h : i < n) : (imarks k n).getD i 0 = k + (i : Int) := by
  simp [imarks, List.getD_eq_getElem?_getD, h]
theorem imarks_fits {k : Int} {n : Nat} (h0 : 0 ≤ k) (h1 : k ≤ 16777216) (hn : n ≤ 1048576) : IFits (imarks k n) := by
  intro p hp
  unfold imarks at hp
  obtain ⟨i, hi, rfl⟩ := List.mem_map.1 hp
  have := List.mem_range.1 hi
  omega

section
variable {H : Type} {enc : TypeId × Value → H} {w : World} {base : Nat}
end
end Go.Proofs.Ytafpjgojmpjajaa
