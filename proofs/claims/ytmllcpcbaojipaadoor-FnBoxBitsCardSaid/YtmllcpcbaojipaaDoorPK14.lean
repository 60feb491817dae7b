/- The laws' own copy of a box: a new list with the same pairs; its size; two boxes with the same pairs are the same. Conditions: the list is no longer than 2^20. -/
import Derived.Test.YtmllcpcbaojipaaDoorPK09
import Derived.Test.YtmllcpcbaojipaaDoorPK13
import Derived.Test.YtmllcpcbaojipaaDoorPK05
import Derived.OwnWalk
import Derived.BigQuiet
import Derived.Deep.QuietTactic
namespace Go.Proofs.YtmllcpcbaojipaaDoor
open Go.RowKit
set_option linter.unusedVariables false
set_option maxRecDepth 100000

/-- a list of pairs in a block of its own -/
def Row (w : World) (b : Nat) (ps : List (Int × Int)) : Prop :=
  b < w.heap.size ∧ ∀ i, i < ps.length → (w.cell? ⟨b, i * 2, none⟩ = some (.int .i64 (ps.getD i (0, 0)).1) ∧ w.cell? ⟨b, i * 2 + 1, none⟩ = some (.int .i64 (ps.getD i (0, 0)).2)) ∧ w.frozen? ⟨b, i * 2, none⟩ = false ∧ w.frozen? ⟨b, i * 2 + 1, none⟩ = false
def Fits (ps : List (Int × Int)) : Prop := ∀ p ∈ ps, (-9223372036854775808 ≤ p.1 ∧ p.1 ≤ 9223372036854775807) ∧ -9223372036854775808 ≤ p.2 ∧ p.2 ≤ 9223372036854775807
/-- a cell of a block -/
def Cel1 (w : World) (b : Nat) (x : Value) : Prop := w.cell? ⟨b, 0, none⟩ = some x ∧ w.frozen? ⟨b, 0, none⟩ = false ∧ b < w.heap.size
theorem Cel1.later {w w1 : World} {b : Nat} {x : Value} (h : Cel1 w b x) (k : Below w.heap.size w w1) : Cel1 w1 b x :=
  ⟨(k.cell (p := ⟨b, 0, none⟩) h.2.2).trans h.1, (k.frozen (p := ⟨b, 0, none⟩) h.2.2).trans h.2.1, Nat.lt_of_lt_of_le h.2.2 k.size⟩
theorem Cel1.alloc {w : World} {b : Nat} {x : Value} (h : Cel1 w b x) (o : Obj) : Cel1 (w.alloc o) b x := h.later ((Below.refl _ _).alloc (Nat.le_refl _) o)
theorem Cel1.made (w : World) (b : Nat) (hb : b = w.heap.size) (x : Value) (t : TypeId) : Cel1 (w.alloc (.cells #[x] t)) b x := by subst hb; exact ⟨by simp, by simp, by simp⟩
theorem Cel1.set {w : World} {b : Nat} {x : Value} (h : Cel1 w b x) (y : Value) : Cel1 (w.setCell ⟨b, 0, none⟩ y) b y := ⟨World.cell?_setCell_same _ _ _ h.1, by simpa using h.2.1, by simpa [World.setCell] using h.2.2⟩
theorem Cel1.other {w : World} {b : Nat} {x : Value} (h : Cel1 w b x) (p : Addr) (hne : b ≠ p.block) (y : Value) : Cel1 (w.setCell p y) b x := ⟨by rw [World.cell?_setCell_other _ _ _ _ (by intro e; subst e; exact hne rfl)]; exact h.1, by simpa using h.2.1, by simpa [World.setCell] using h.2.2⟩
theorem Row.old {w w' : World} {b : Nat} {ps : List (Int × Int)} (h : Row w b ps) (k : Below w.heap.size w w') : Row w' b ps := by
  refine ⟨Nat.lt_of_lt_of_le h.1 k.size, fun i hi => ?_⟩
  obtain ⟨⟨h1, h2⟩, h3, h4⟩ := h.2 i hi
  exact ⟨⟨(k.cell (p := ⟨b, i * 2, none⟩) h.1).trans h1, (k.cell (p := ⟨b, i * 2 + 1, none⟩) h.1).trans h2⟩, (k.frozen (p := ⟨b, i * 2, none⟩) h.1).trans h3, (k.frozen (p := ⟨b, i * 2 + 1, none⟩) h.1).trans h4⟩
theorem Row.inRow {w : World} {b cap : Nat} {ps : List (Int × Int)} (h : Row w b ps) (f : Fits ps) (h1 : ps.length ≤ cap) (h2 : cap ≤ maxLen) : InRow w (some ⟨b, 0, none⟩) ps.length cap ps := by
  refine ⟨rfl, h1, h2, f, .inr ⟨b, 0, rfl, h.1, fun i hi => ?_⟩⟩
  rw [Nat.zero_add, Nat.zero_add]
  exact (h.2 i hi).1
theorem Row.set {w : World} {b : Nat} {ps : List (Int × Int)} (h : Row w b ps) (k : Nat) (hk : k < ps.length) (x y : Int) : Row ((w.setCell ⟨b, k * 2, none⟩ (.int .i64 x)).setCell ⟨b, k * 2 + 1, none⟩ (.int .i64 y)) b (ps.set k (x, y)) := by
  refine ⟨by simpa [World.setCell] using h.1, fun i hi => ?_⟩
  rw [List.length_set] at hi
  obtain ⟨⟨h1, h2⟩, h3, h4⟩ := h.2 i hi
  by_cases e : i = k
  · subst e
    have eg : (ps.set i (x, y)).getD i (0, 0) = (x, y) := by simp [List.getD_eq_getElem?_getD, hk]
    rw [eg]
    have k2 : (w.setCell ⟨b, i * 2, none⟩ (.int .i64 x)).cell? ⟨b, i * 2 + 1, none⟩ = some (.int .i64 (ps.getD i (0, 0)).2) := by
      rw [World.cell?_setCell_other _ _ _ _ (by intro h; injection h with _ h2; omega)]; exact h2
    refine ⟨⟨?_, World.cell?_setCell_same _ _ _ k2⟩, by simpa using h3, by simpa using h4⟩
    rw [World.cell?_setCell_other _ _ _ _ (by intro h; injection h with _ h2; omega)]
    exact World.cell?_setCell_same _ _ _ h1
  · have eg : (ps.set k (x, y)).getD i (0, 0) = ps.getD i (0, 0) := by simp [List.getD_eq_getElem?_getD, Ne.symm e]
    rw [eg]
    refine ⟨⟨?_, ?_⟩, by simpa using h3, by simpa using h4⟩
    · rw [World.cell?_setCell_other _ _ _ _ (by intro h; injection h with _ h2; omega), World.cell?_setCell_other _ _ _ _ (by intro h; injection h with _ h2; omega)]; exact h1
    · rw [World.cell?_setCell_other _ _ _ _ (by intro h; injection h with _ h2; omega), World.cell?_setCell_other _ _ _ _ (by intro h; injection h with _ h2; omega)]; exact h2
theorem Row.other {w : World} {b : Nat} {ps : List (Int × Int)} (h : Row w b ps) (p : Addr) (hne : b ≠ p.block) (y : Value) : Row (w.setCell p y) b ps := by
  refine ⟨by simpa [World.setCell] using h.1, fun i hi => ?_⟩
  obtain ⟨⟨h1, h2⟩, h3, h4⟩ := h.2 i hi
  refine ⟨⟨?_, ?_⟩, by simpa using h3, by simpa using h4⟩
  · rw [World.cell?_setCell_other _ _ _ _ (by intro e; subst e; exact hne rfl)]; exact h1
  · rw [World.cell?_setCell_other _ _ _ _ (by intro e; subst e; exact hne rfl)]; exact h2
theorem Row.made (w : World) (n : Nat) (t : TypeId) : Row (w.alloc (.cells (madeCells #[.int .i64 0, .int .i64 0] (n * 2)) t)) w.heap.size (List.replicate n (0, 0)) := by
  refine ⟨by simp, fun i hi => ?_⟩
  rw [List.length_replicate] at hi
  have eg : (List.replicate n ((0 : Int), (0 : Int))).getD i (0, 0) = (0, 0) := by simp [List.getD_eq_getElem?_getD, hi]
  rw [eg]
  have e0 : (madeCells #[Value.int IntKind.i64 0, Value.int IntKind.i64 0] (n * 2))[i * 2]? = some (.int .i64 0) := by
    simp [madeCells, show i * 2 < n * 2 by omega]
  have e1 : (madeCells #[Value.int IntKind.i64 0, Value.int IntKind.i64 0] (n * 2))[i * 2 + 1]? = some (.int .i64 0) := by
    simp [madeCells, show i * 2 + 1 < n * 2 by omega, show (i * 2 + 1) % 2 = 1 by omega]
  exact ⟨⟨by simp [e0], by simp [e1]⟩, by simp, by simp⟩

theorem InRow.at {w : World} {a : Option Addr} {len cap : Nat} {ps : List (Int × Int)} (h : InRow w a len cap ps) {k : Nat} (hk : k < len) : ∃ (b off : Nat) (x y : Int), a = some ⟨b, off, none⟩ ∧ b < w.heap.size ∧ ps.getD k (0, 0) = (x, y) ∧ ((-9223372036854775808 ≤ x ∧ x ≤ 9223372036854775807) ∧ -9223372036854775808 ≤ y ∧ y ≤ 9223372036854775807) ∧ w.cell? ⟨b, off + k * 2, none⟩ = some (.int .i64 x) ∧ w.cell? ⟨b, off + k * 2 + 1, none⟩ = some (.int .i64 y) := by
  rcases h.2.2.2.2 with h0 | ⟨b, off, e, hb, hc⟩
  · omega
  · have hl := h.1
    refine ⟨b, off, _, _, e, hb, rfl, ?_, (hc k hk).1, ?_⟩
    · apply h.2.2.2.1
      have e2 : ps.getD k (0, 0) = ps[k]'(by omega) := by rw [List.getD_eq_getElem?_getD, List.getElem?_eq_getElem (by omega)]; rfl
      show ps.getD k (0, 0) ∈ ps
      rw [e2]
      exact List.getElem_mem _
    · rw [Nat.add_assoc]
      exact (hc k hk).2
theorem Row.at {w : World} {b : Nat} {ps : List (Int × Int)} (h : Row w b ps) {k : Nat} (hk : k < ps.length) : ∃ x y : Int, ps.getD k (0, 0) = (x, y) ∧ w.cell? ⟨b, k * 2, none⟩ = some (.int .i64 x) ∧ w.cell? ⟨b, k * 2 + 1, none⟩ = some (.int .i64 y) ∧ w.frozen? ⟨b, k * 2, none⟩ = false ∧ w.frozen? ⟨b, k * 2 + 1, none⟩ = false :=
  ⟨_, _, rfl, (h.2 k hk).1.1, (h.2 k hk).1.2, (h.2 k hk).2.1, (h.2 k hk).2.2⟩

theorem infoPair : (Tryd.prog.info? 40).map (fun i => (i.zero, i.size, i.bytes)) = some (some (.agg #[.int .i64 0, .int .i64 0]), 2, 16) := by kernel_rfl
theorem mkPairs (w : World) (n : Nat) (hn : n ≤ 1048576) : (Instr.makeSlice 23 (.int .i64 (n : Int)) (.int .i64 (n : Int))).run Tryd.prog w = .ok (.slice (some ⟨w.heap.size, 0, none⟩) n n) (w.alloc (.cells (madeCells #[.int .i64 0, .int .i64 0] (n * 2)) 40)) := by
  obtain ⟨i, h1, h2, h3, h4⟩ := info_parts infoPair
  have h := run_make (P := Tryd.prog) w 23 40 i _ Tryd.underlying23 h1 h2 .i64 .i64 n n (by omega) (by omega) (by rw [h4]; omega) (by omega)
  rw [h3] at h
  exact h

/-- the first k pairs are these -/
def Upto (k : Nat) (qs ps : List (Int × Int)) : Prop := qs.length = ps.length ∧ ∀ i, i < k → qs.getD i (0, 0) = ps.getD i (0, 0)
theorem Upto.zero {n : Nat} {ps : List (Int × Int)} (hp : ps.length = n) : Upto 0 (List.replicate n (0, 0)) ps := ⟨by simp [hp], fun i h => by omega⟩
theorem Upto.step {k : Nat} {qs ps : List (Int × Int)} (h : Upto k qs ps) (hk : k < ps.length) : Upto (k + 1) (qs.set k (ps.getD k (0, 0))) ps := by
  refine ⟨by simpa using h.1, fun i hi => ?_⟩
  by_cases e : i = k
  · subst e; simp [List.getD_eq_getElem?_getD, h.1, hk]
  · rw [← h.2 i (by omega)]; simp [List.getD_eq_getElem?_getD, Ne.symm e]
theorem Upto.all {qs ps : List (Int × Int)} (h : Upto ps.length qs ps) : qs = ps := by
  apply List.ext_getElem h.1
  intro i h1 h2
  have := h.2 i h2
  simpa [List.getD_eq_getElem?_getD, h1, h2] using this

end Go.Proofs.YtmllcpcbaojipaaDoor
