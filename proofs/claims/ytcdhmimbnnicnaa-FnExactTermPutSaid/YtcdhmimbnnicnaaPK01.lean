/- Lists of whole numbers: what lies in memory, what a law's own copy, comparison, mark and look do. Conditions: lists of 2^20 numbers at most. -/
import Derived.Test.YtcdhmimbnnicnaaRows
import Derived.WalkKit
import Derived.WalkSpells
import Derived.WalkLawsBesides
import Derived.ProofKit
import Derived.OpenShut
import Derived.OwnWalk
import Derived.BigQuiet
import Derived.Deep.QuietTactic
import Derived.RangeFuncBox
import Derived.Maps.AppendAt
import Derived.Lib.SmallJoins
import Derived.ChangeOld
import Derived.ShutString
import Derived.Laws.RangeString
import Derived.Laws.RangeAny
import Derived.Laws.DeepStrings4
import Derived.Lib.OthersKept
import Derived.LoopN
import Derived.KernelRfl
import Derived.Deep.Slices
import Derived.Deep.Strs
import Derived.Laws.StructEq
namespace Go.Proofs.Ytcdhmimbnnicnaa
open Go.ChangeShapes Go.WideShapes Go.ChangeAt Go.RowKit
set_option linter.unusedVariables false
set_option maxRecDepth 100000

theorem hd {p : Prop} (h : p) : Hid p := h
theorem old_alloc {a b : World} (h : Below a.heap.size a b) (o : Obj) : Below a.heap.size a (b.alloc o) := h.alloc h.size o
theorem old_trans {a b c : World} (h : Below a.heap.size a b) (k : Below b.heap.size b c) : Below a.heap.size a c := h.trans (k.mono h.size)
theorem grown_set {w w' : World} {b : Nat} (h : w.grownBy w' (some b)) (i : Nat) (v : Value) : w.grownBy (w'.setCell ⟨b, i, none⟩ v) (some b) :=
  ⟨h.os, h.tape, h.output, by simpa [World.setCell] using h.size, fun k hk hne => (Below.heap_setCell _ _ _ _ (by intro e; exact hne (by rw [e]))).trans (h.block k hk hne)⟩
theorem grown_below {w w' : World} (h : Below w.heap.size w w') : w.grownBy w' none := ⟨h.1, h.2, h.3, h.4, fun k hk _ => h.5 k hk⟩

/-- numbers in a block of their own -/
def IRow (w : World) (b : Nat) (xs : List Int) : Prop :=
  b < w.heap.size ∧ ∀ i, i < xs.length → w.cell? ⟨b, i, none⟩ = some (.int .i64 (xs.getD i 0)) ∧ w.frozen? ⟨b, i, none⟩ = false
def IFits (xs : List Int) : Prop := ∀ x ∈ xs, -9223372036854775808 ≤ x ∧ x ≤ 9223372036854775807
/-- numbers that lie somewhere -/
def InI (w : World) (a : Option Addr) (len cap : Nat) (xs : List Int) : Prop :=
  xs.length = len ∧ len ≤ cap ∧ cap ≤ maxLen ∧ IFits xs ∧
  (len = 0 ∨ ∃ b off : Nat, a = some ⟨b, off, none⟩ ∧ b < w.heap.size ∧ ∀ i, i < len → w.cell? ⟨b, off + i, none⟩ = some (.int .i64 (xs.getD i 0)))
theorem InI.old {w w' : World} {a : Option Addr} {len cap : Nat} {xs : List Int} (h : InI w a len cap xs) (b : Below w.heap.size w w') : InI w' a len cap xs := by
  obtain ⟨h1, h2, h3, h4, h5⟩ := h
  refine ⟨h1, h2, h3, h4, ?_⟩
  rcases h5 with h5 | ⟨bb, off, q1, q2, q3⟩
  · exact .inl h5
  · exact .inr ⟨bb, off, q1, Nat.lt_of_lt_of_le q2 b.size, fun i hi => (b.cell (p := ⟨bb, off + i, none⟩) q2).trans (q3 i hi)⟩
theorem InI.alloc {w : World} {a : Option Addr} {len cap : Nat} {xs : List Int} (h : InI w a len cap xs) (o : Obj) : InI (w.alloc o) a len cap xs := h.old ((Below.refl _ _).alloc (Nat.le_refl _) o)
theorem InI.drew {w : World} {a : Option Addr} {len cap : Nat} {xs : List Int} (h : InI w a len cap xs) : InI w.drew a len cap xs := h
theorem getD_mem {xs : List Int} {k : Nat} (hk : k < xs.length) : xs.getD k 0 ∈ xs := by
  have e2 : xs.getD k 0 = xs[k]'hk := by rw [List.getD_eq_getElem?_getD, List.getElem?_eq_getElem hk]; rfl
  rw [e2]
  exact List.getElem_mem _
theorem InI.at {w : World} {a : Option Addr} {len cap : Nat} {xs : List Int} (h : InI w a len cap xs) {k : Nat} (hk : k < len) : ∃ (b off : Nat) (x : Int), a = some ⟨b, off, none⟩ ∧ b < w.heap.size ∧ xs.getD k 0 = x ∧ (-9223372036854775808 ≤ x ∧ x ≤ 9223372036854775807) ∧ w.cell? ⟨b, off + k, none⟩ = some (.int .i64 x) := by
  rcases h.2.2.2.2 with h0 | ⟨b, off, e, hb, hc⟩
  · omega
  · exact ⟨b, off, _, e, hb, rfl, h.2.2.2.1 _ (getD_mem (by rw [h.1]; exact hk)), hc k hk⟩
theorem InI.kept {w w' : World} {a : Option Addr} {len cap : Nat} {xs : List Int} {row : Option Nat} (h : InI w a len cap xs) (g : w.grownBy w' row) (hne : 0 < len → ∀ q, a = some q → some q.block ≠ row) : InI w' a len cap xs := by
  obtain ⟨h1, h2, h3, h4, h5⟩ := h
  refine ⟨h1, h2, h3, h4, ?_⟩
  by_cases h0 : len = 0
  · exact .inl h0
  rcases h5 with h5 | ⟨b, off, q1, q2, q3⟩
  · exact .inl h5
  · refine .inr ⟨b, off, q1, Nat.lt_of_lt_of_le q2 g.size, fun i hi => ?_⟩
    have e := g.block b q2 (hne (by omega) _ q1)
    exact (World.cell?_of_block (a := ⟨b, off + i, none⟩) e).trans (q3 i hi)
theorem InI.far {w : World} {a : Option Addr} {len cap : Nat} {xs : List Int} (h : InI w a len cap xs) : 0 < len → ∀ q, a = some q → q.block < w.heap.size := by
  intro h0 q e
  rcases h.2.2.2.2 with h5 | ⟨b, off, q1, q2, -⟩
  · omega
  · rw [q1] at e; cases e; exact q2
theorem InI.len {w : World} {a : Option Addr} {len cap : Nat} {xs : List Int} (h : InI w a len cap xs) : len ≤ 9223372036854775807 := by
  have := Nat.le_trans h.2.1 h.2.2.1
  unfold maxLen at this
  omega
theorem IRow.old {w w' : World} {b : Nat} {xs : List Int} (h : IRow w b xs) (k : Below w.heap.size w w') : IRow w' b xs :=
  ⟨Nat.lt_of_lt_of_le h.1 k.size, fun i hi => ⟨(k.cell (p := ⟨b, i, none⟩) h.1).trans (h.2 i hi).1, (k.frozen (p := ⟨b, i, none⟩) h.1).trans (h.2 i hi).2⟩⟩
theorem IRow.at {w : World} {b : Nat} {xs : List Int} (h : IRow w b xs) {k : Nat} (hk : k < xs.length) : ∃ x : Int, xs.getD k 0 = x ∧ w.cell? ⟨b, k, none⟩ = some (.int .i64 x) ∧ w.frozen? ⟨b, k, none⟩ = false := ⟨_, rfl, (h.2 k hk).1, (h.2 k hk).2⟩
theorem IRow.set {w : World} {b : Nat} {xs : List Int} (h : IRow w b xs) (k : Nat) (hk : k < xs.length) (x : Int) : IRow (w.setCell ⟨b, k, none⟩ (.int .i64 x)) b (xs.set k x) := by
  refine ⟨by simpa [World.setCell] using h.1, fun i hi => ?_⟩
  rw [List.length_set] at hi
  obtain ⟨h1, h3⟩ := h.2 i hi
  by_cases e : i = k
  · subst e
    have eg : (xs.set i x).getD i 0 = x := by simp [List.getD_eq_getElem?_getD, hk]
    rw [eg]
    exact ⟨World.cell?_setCell_same _ _ _ h1, by simpa using h3⟩
  · have eg : (xs.set k x).getD i 0 = xs.getD i 0 := by simp [List.getD_eq_getElem?_getD, Ne.symm e]
    rw [eg]
    refine ⟨?_, by simpa using h3⟩
    rw [World.cell?_setCell_other _ _ _ _ (by intro h; injection h with _ h2; omega)]; exact h1
theorem IRow.kept {w w' : World} {c : Nat} {xs : List Int} {row : Option Nat} (h : IRow w c xs) (g : w.grownBy w' row) (hne : some c ≠ row) : IRow w' c xs := by
  refine ⟨Nat.lt_of_lt_of_le h.1 g.size, fun i hi => ?_⟩
  have e := g.block c h.1 hne
  exact ⟨(World.cell?_of_block (a := ⟨c, i, none⟩) e).trans (h.2 i hi).1, (World.frozen?_of_block (a := ⟨c, i, none⟩) e).trans (h.2 i hi).2⟩
theorem IRow.made (w : World) (n : Nat) (t : TypeId) : IRow (w.alloc (.cells (madeCells #[.int .i64 0] (n * 1)) t)) w.heap.size (List.replicate n 0) := by
  refine ⟨by simp, fun i hi => ?_⟩
  rw [List.length_replicate] at hi
  have eg : (List.replicate n (0 : Int)).getD i 0 = 0 := by simp [List.getD_eq_getElem?_getD, hi]
  rw [eg]
  have e0 : (madeCells #[Value.int IntKind.i64 0] (n * 1))[i]? = some (.int .i64 0) := by
    simp [madeCells, show i < n by omega, Nat.mod_one]
  exact ⟨by simpa using e0, by simp⟩

/-- the first k numbers are these -/
def IUpto (k : Nat) (qs xs : List Int) : Prop := qs.length = xs.length ∧ ∀ i, i < k → qs.getD i 0 = xs.getD i 0
theorem IUpto.zero {qs xs : List Int} (hp : qs.length = xs.length) : IUpto 0 qs xs := ⟨hp, fun i h => by omega⟩
theorem IUpto.step {k : Nat} {qs xs : List Int} (h : IUpto k qs xs) (hk : k < xs.length) : IUpto (k + 1) (qs.set k (xs.getD k 0)) xs := by
  refine ⟨by simpa using h.1, fun i hi => ?_⟩
  by_cases e : i = k
  · subst e; simp [List.getD_eq_getElem?_getD, h.1, hk]
  · rw [← h.2 i (by omega)]; simp [List.getD_eq_getElem?_getD, Ne.symm e]
theorem IUpto.all {qs xs : List Int} (h : IUpto xs.length qs xs) : qs = xs := by
  apply List.ext_getElem h.1
  intro i h1 h2
  have := h.2 i h2
  simpa [List.getD_eq_getElem?_getD, h1, h2] using this

section
variable {H : Type} {enc : TypeId × Value → H} {w : World} {base : Nat}
end
end Go.Proofs.Ytcdhmimbnnicnaa

/- Texts byte by byte; letters, digits and names, of both sides; nothing is written. No condition. -/
namespace Go.Proofs.Ytcdhmimbnnicnaa
open Go.RowKit
set_option linter.unusedVariables false
set_option maxRecDepth 100000

/-- the byte at a place -/
def byt (s : ByteArray) (k : Nat) : Int := ((s.data.toList.getD k 0).toNat : Int)
theorem byt_bd (s : ByteArray) (k : Nat) : 0 ≤ byt s k ∧ byt s k ≤ 255 := by
  unfold byt
  have := (s.data.toList.getD k 0).toNat_lt
  omega
theorem byt_at (s : ByteArray) (k : Nat) (h : k < s.size) : ((s[k]'h).toNat : Int) = byt s k := by
  obtain ⟨d⟩ := s
  have hd : k < d.size := h
  have e : d.toList.getD k 0 = d[k] := by simp [List.getD_eq_getElem?_getD, hd]
  show ((d[k]'hd).toNat : Int) = ((d.toList.getD k 0).toNat : Int)
  rw [e]
theorem idxS {t : TypeId} (ht : Try.prog.underlying t = some .string) (s : ByteArray) (k : Nat) (h : k < s.size) (w : World) :
    (Instr.index t (.string s) (.int .i64 (k : Int))).run Try.prog w = .ok (.int .u8 (byt s k)) w := by
  rw [run_index_string (h := ht), dif_pos ⟨by omega, by omega⟩]
  have := byt_at s k h
  simp only [Int.toNat_natCast]
  rw [this]
theorem idxS0 {t : TypeId} (ht : Try.prog.underlying t = some .string) (s : ByteArray) (h : 0 < s.size) (w : World) :
    (Instr.index t (.string s) (.int .i64 0)).run Try.prog w = .ok (.int .u8 (byt s 0)) w := idxS ht s 0 h w
/-- cells of a block that is no one else's -/
structure CS (w : World) (b : Nat) (vs : List Value) : Prop where
  cell : ∀ i v, vs[i]? = some v → w.cell? ⟨b, i, none⟩ = some v
  froz : ∀ i, i < vs.length → w.frozen? ⟨b, i, none⟩ = false
  lt : b < w.heap.size
theorem CS.later {w w1 : World} {b : Nat} {vs : List Value} (h : CS w b vs) (hb : Below w.heap.size w w1) : CS w1 b vs :=
  ⟨fun i v hi => (hb.cell (p := ⟨b, i, none⟩) h.lt).trans (h.cell i v hi), fun i hi => (hb.frozen (p := ⟨b, i, none⟩) h.lt).trans (h.froz i hi), Nat.lt_of_lt_of_le h.lt hb.size⟩
theorem CS.alloc {w : World} {b : Nat} {vs : List Value} (h : CS w b vs) (o : Obj) : CS (w.alloc o) b vs := h.later ((Below.refl _ _).alloc (Nat.le_refl _) o)
theorem CS.drew {w : World} {b : Nat} {vs : List Value} (h : CS w b vs) : CS w.drew b vs := ⟨h.cell, h.froz, h.lt⟩
theorem CS.made (w : World) (b : Nat) (hb : b = w.heap.size) (vs : Array Value) (t : TypeId) : CS (w.alloc (.cells vs t)) b vs.toList := by
  subst hb
  exact ⟨fun i v hi => by simpa using hi, fun i hi => by simp, by simp⟩
theorem CS.far {w : World} {b c i : Nat} {vs : List Value} (h : CS w b vs) (hn : b ≠ c) (v : Value) : CS (w.setCell ⟨c, i, none⟩ v) b vs := by
  have o : ∀ (j : Nat), (w.setCell ⟨c, i, none⟩ v).cell? ⟨b, j, none⟩ = w.cell? ⟨b, j, none⟩ := fun j => World.cell?_setCell_other _ _ _ _ (by intro h; injection h with h2 _; omega)
  exact ⟨fun j u hj => (o j).trans (h.cell j u hj), fun j hj => by simpa using h.froz j hj, by simpa [World.setCell] using h.lt⟩
theorem CS.stored {w : World} {b i : Nat} {vs : List Value} (h : CS w b vs) (v : Value) (hi : i < vs.length) : CS (w.setCell ⟨b, i, none⟩ v) b (vs.set i v) := by
  refine ⟨fun j u hj => ?_, fun j hj => by simpa using h.froz j (by simpa using hj), by simpa [World.setCell] using h.lt⟩
  by_cases e : i = j
  · subst e
    rw [List.getElem?_set_self hi] at hj
    obtain rfl := Option.some.inj hj
    exact World.cell?_setCell_same _ _ _ (h.cell i _ (List.getElem?_eq_getElem hi))
  · rw [List.getElem?_set_ne e] at hj
    exact (World.cell?_setCell_other _ _ _ _ (by intro h; injection h with _ h2; omega)).trans (h.cell j u hj)

def isD (n : Int) : Bool := decide (48 ≤ n) && decide (n ≤ 57)
def isL (n : Int) : Bool := decide (97 ≤ n) && decide (n ≤ 122)
def isW (n : Int) : Bool := isL n || isD n
theorem isW_high {n : Int} (h : 128 ≤ n) : isW n = false := by unfold isW isL isD; simp; omega
theorem iIsLetter (n : Int) (w : World) : Calls Try.prog 133 #[.int .i32 n] w fun e w' => e = .returned (.bool (isL n)) ∧ w' = w := by
  unfold isL
  go_enter Try.func133, Try.ntmps133
  go_wp2
  all_goals go_ret
  all_goals (refine ⟨?_, rfl⟩; first | rfl | (simp; omega) | (simp_all; done) | (simp_all; omega))
theorem iIsDigit (n : Int) (w : World) : Calls Try.prog 149 #[.int .i32 n] w fun e w' => e = .returned (.bool (isD n)) ∧ w' = w := by
  unfold isD
  go_enter Try.func149, Try.ntmps149
  go_wp2
  all_goals go_ret
  all_goals (refine ⟨?_, rfl⟩; first | rfl | (simp; omega) | (simp_all; done) | (simp_all; omega))
theorem sLetter (n : Int) (w : World) : Calls Try.prog 146 #[.int .u8 n] w fun e w' => e = .returned (.bool (isL n)) ∧ w' = w := by
  unfold isL
  go_enter Try.func146, Try.ntmps146
  go_wp2
  all_goals go_ret
  all_goals (refine ⟨?_, rfl⟩; first | rfl | (simp; omega) | (simp_all; done) | (simp_all; omega))
theorem sDigit (n : Int) (w : World) : Calls Try.prog 147 #[.int .u8 n] w fun e w' => e = .returned (.bool (isD n)) ∧ w' = w := by
  unfold isD
  go_enter Try.func147, Try.ntmps147
  go_wp2
  all_goals go_ret
  all_goals (refine ⟨?_, rfl⟩; first | rfl | (simp; omega) | (simp_all; done) | (simp_all; omega))
theorem iBegins (n : Int) (w : World) : Calls Try.prog 134 #[.int .i32 n] w fun e w' => e = .returned (.bool (isW n)) ∧ w' = w := by
  have L := hd (iIsLetter n)
  have D := hd (iIsDigit n)
  unfold isW
  generalize isL n = l at *
  generalize isD n = d at *
  go_enter Try.func134, Try.ntmps134
  go_wp2_with fail
  refine (L.out _).mono ?_
  rintro e w1 ⟨rfl, rfl⟩
  cases l
  · go_wp2_with fail
    refine (D.out _).mono ?_
    rintro e w1 ⟨rfl, rfl⟩
    go_wp2
    go_ret
    exact ⟨rfl, rfl⟩
  · go_wp2
    go_ret
    exact ⟨rfl, rfl⟩
end Go.Proofs.Ytcdhmimbnnicnaa

/- Nodes of terms in memory: what an argument gives when it is opened; a law's own copy, size and comparison. Conditions: lists of 2^20 nodes at most. -/
namespace Go.Proofs.Ytcdhmimbnnicnaa
open Go.ChangeShapes Go.WideShapes Go.ChangeAt Go.RowKit
set_option linter.unusedVariables false
set_option maxRecDepth 100000

structure Tn where
  k : Int
  n : Int
  s : ByteArray
def tn0 : Tn := ⟨0, 0, ⟨#[]⟩⟩
def Tn.fit (x : Tn) : Prop := (-9223372036854775808 ≤ x.k ∧ x.k ≤ 9223372036854775807) ∧ (-9223372036854775808 ≤ x.n ∧ x.n ≤ 9223372036854775807) ∧ x.s.size ≤ maxLen
def NC (w : World) (b o : Nat) (x : Tn) : Prop := w.cell? ⟨b, o, none⟩ = some (.int .i64 x.k) ∧ w.cell? ⟨b, o + 1, none⟩ = some (.int .i64 x.n) ∧ w.cell? ⟨b, o + 2, none⟩ = some (.string x.s)
/-- nodes that lie somewhere -/
def InN (w : World) (a : Option Addr) (len cap : Nat) (xs : List Tn) : Prop :=
  xs.length = len ∧ len ≤ cap ∧ cap ≤ maxLen ∧ (∀ x ∈ xs, x.fit) ∧
  (len = 0 ∨ ∃ b off : Nat, a = some ⟨b, off, none⟩ ∧ b < w.heap.size ∧ ∀ i, i < len → NC w b (off + i * 3) (xs.getD i tn0))
theorem NC.old {w w' : World} {b o : Nat} {x : Tn} (h : NC w b o x) (k : Below w.heap.size w w') (hb : b < w.heap.size) : NC w' b o x :=
  ⟨(k.cell (p := ⟨b, o, none⟩) hb).trans h.1, (k.cell (p := ⟨b, o + 1, none⟩) hb).trans h.2.1, (k.cell (p := ⟨b, o + 2, none⟩) hb).trans h.2.2⟩
theorem InN.old {w w' : World} {a : Option Addr} {len cap : Nat} {xs : List Tn} (h : InN w a len cap xs) (b : Below w.heap.size w w') : InN w' a len cap xs := by
  obtain ⟨h1, h2, h3, h4, h5⟩ := h
  refine ⟨h1, h2, h3, h4, ?_⟩
  rcases h5 with h5 | ⟨bb, off, q1, q2, q3⟩
  · exact .inl h5
  · exact .inr ⟨bb, off, q1, Nat.lt_of_lt_of_le q2 b.size, fun i hi => (q3 i hi).old b q2⟩
theorem getD_memT {xs : List Tn} {k : Nat} (hk : k < xs.length) : xs.getD k tn0 ∈ xs := by
  have e2 : xs.getD k tn0 = xs[k]'hk := by rw [List.getD_eq_getElem?_getD, List.getElem?_eq_getElem hk]; rfl
  rw [e2]
  exact List.getElem_mem _
theorem InN.at {w : World} {a : Option Addr} {len cap : Nat} {xs : List Tn} (h : InN w a len cap xs) {k : Nat} (hk : k < len) : ∃ (b off : Nat) (x y : Int) (s : ByteArray), a = some ⟨b, off, none⟩ ∧ b < w.heap.size ∧ xs.getD k tn0 = ⟨x, y, s⟩ ∧ Tn.fit ⟨x, y, s⟩ ∧ w.cell? ⟨b, off + k * 3, none⟩ = some (.int .i64 x) ∧ w.cell? ⟨b, off + k * 3 + 1, none⟩ = some (.int .i64 y) ∧ w.cell? ⟨b, off + k * 3 + 2, none⟩ = some (.string s) := by
  rcases h.2.2.2.2 with h0 | ⟨b, off, e, hb, hc⟩
  · omega
  · have hl := h.1
    have q := hc k hk
    exact ⟨b, off, _, _, _, e, hb, rfl, h.2.2.2.1 _ (getD_memT (by omega)), q.1, q.2.1, q.2.2⟩
/-- nodes in a block of their own -/
def RowN (w : World) (b : Nat) (xs : List Tn) : Prop :=
  b < w.heap.size ∧ ∀ i, i < xs.length → NC w b (i * 3) (xs.getD i tn0) ∧ w.frozen? ⟨b, i * 3, none⟩ = false ∧ w.frozen? ⟨b, i * 3 + 1, none⟩ = false ∧ w.frozen? ⟨b, i * 3 + 2, none⟩ = false
theorem RowN.old {w w' : World} {b : Nat} {xs : List Tn} (h : RowN w b xs) (k : Below w.heap.size w w') : RowN w' b xs :=
  ⟨Nat.lt_of_lt_of_le h.1 k.size, fun i hi => ⟨(h.2 i hi).1.old k h.1, (k.frozen (p := ⟨b, i * 3, none⟩) h.1).trans (h.2 i hi).2.1, (k.frozen (p := ⟨b, i * 3 + 1, none⟩) h.1).trans (h.2 i hi).2.2.1, (k.frozen (p := ⟨b, i * 3 + 2, none⟩) h.1).trans (h.2 i hi).2.2.2⟩⟩
theorem RowN.inN {w : World} {b cap : Nat} {xs : List Tn} (h : RowN w b xs) (f : ∀ x ∈ xs, x.fit) (h1 : xs.length ≤ cap) (h2 : cap ≤ maxLen) : InN w (some ⟨b, 0, none⟩) xs.length cap xs :=
  ⟨rfl, h1, h2, f, .inr ⟨b, 0, rfl, h.1, fun i hi => by rw [Nat.zero_add]; exact (h.2 i hi).1⟩⟩
theorem RowN.at {w : World} {b : Nat} {xs : List Tn} (h : RowN w b xs) {k : Nat} (hk : k < xs.length) : ∃ (x y : Int) (s : ByteArray), w.cell? ⟨b, k * 3, none⟩ = some (.int .i64 x) ∧ w.cell? ⟨b, k * 3 + 1, none⟩ = some (.int .i64 y) ∧ w.cell? ⟨b, k * 3 + 2, none⟩ = some (.string s) ∧ w.frozen? ⟨b, k * 3, none⟩ = false ∧ w.frozen? ⟨b, k * 3 + 1, none⟩ = false ∧ w.frozen? ⟨b, k * 3 + 2, none⟩ = false :=
  ⟨_, _, _, (h.2 k hk).1.1, (h.2 k hk).1.2.1, (h.2 k hk).1.2.2, (h.2 k hk).2.1, (h.2 k hk).2.2.1, (h.2 k hk).2.2.2⟩
theorem cellN_other (W : World) (b b' i j : Nat) (v : Value) (hn : b ≠ b' ∨ i ≠ j) : (W.setCell ⟨b', j, none⟩ v).cell? ⟨b, i, none⟩ = W.cell? ⟨b, i, none⟩ := World.cell?_setCell_other _ _ _ _ (by intro h; injection h with h1 h2; omega)
theorem RowN.set {w : World} {b : Nat} {xs : List Tn} (h : RowN w b xs) (k : Nat) (hk : k < xs.length) (x : Tn) : RowN (((w.setCell ⟨b, k * 3, none⟩ (.int .i64 x.k)).setCell ⟨b, k * 3 + 1, none⟩ (.int .i64 x.n)).setCell ⟨b, k * 3 + 2, none⟩ (.string x.s)) b (xs.set k x) := by
  refine ⟨by simpa [World.setCell] using h.1, fun i hi => ?_⟩
  rw [List.length_set] at hi
  obtain ⟨⟨h1, h2, h3⟩, f1, f2, f3⟩ := h.2 i hi
  refine ⟨?_, by simpa using f1, by simpa using f2, by simpa using f3⟩
  by_cases e : i = k
  · subst e
    have eg : (xs.set i x).getD i tn0 = x := by simp [List.getD_eq_getElem?_getD, hk]
    rw [eg]
    refine ⟨?_, ?_, ?_⟩
    · rw [cellN_other _ _ _ _ _ _ (by omega), cellN_other _ _ _ _ _ _ (by omega)]; exact World.cell?_setCell_same _ _ _ h1
    · rw [cellN_other _ _ _ _ _ _ (by omega)]; exact World.cell?_setCell_same _ _ _ ((cellN_other _ _ _ _ _ _ (by omega)).trans h2)
    · exact World.cell?_setCell_same _ _ _ ((cellN_other _ _ _ _ _ _ (by omega)).trans ((cellN_other _ _ _ _ _ _ (by omega)).trans h3))
  · have eg : (xs.set k x).getD i tn0 = xs.getD i tn0 := by simp [List.getD_eq_getElem?_getD, Ne.symm e]
    rw [eg]
    refine ⟨?_, ?_, ?_⟩
    · rw [cellN_other _ _ _ _ _ _ (by omega), cellN_other _ _ _ _ _ _ (by omega), cellN_other _ _ _ _ _ _ (by omega)]; exact h1
    · rw [cellN_other _ _ _ _ _ _ (by omega), cellN_other _ _ _ _ _ _ (by omega), cellN_other _ _ _ _ _ _ (by omega)]; exact h2
    · rw [cellN_other _ _ _ _ _ _ (by omega), cellN_other _ _ _ _ _ _ (by omega), cellN_other _ _ _ _ _ _ (by omega)]; exact h3
theorem RowN.other {w : World} {b : Nat} {xs : List Tn} (h : RowN w b xs) (b' j : Nat) (hne : b ≠ b') (y : Value) : RowN (w.setCell ⟨b', j, none⟩ y) b xs := by
  refine ⟨by simpa [World.setCell] using h.1, fun i hi => ?_⟩
  obtain ⟨⟨h1, h2, h3⟩, f1, f2, f3⟩ := h.2 i hi
  exact ⟨⟨(cellN_other _ _ _ _ _ _ (.inl hne)).trans h1, (cellN_other _ _ _ _ _ _ (.inl hne)).trans h2, (cellN_other _ _ _ _ _ _ (.inl hne)).trans h3⟩, by simpa using f1, by simpa using f2, by simpa using f3⟩
theorem RowN.made (w : World) (n : Nat) (t : TypeId) : RowN (w.alloc (.cells (madeCells #[.int .i64 0, .int .i64 0, .string ⟨#[]⟩] (n * 3)) t)) w.heap.size (List.replicate n tn0) := by
  refine ⟨by simp, fun i hi => ?_⟩
  rw [List.length_replicate] at hi
  have eg : (List.replicate n tn0).getD i tn0 = tn0 := by simp [List.getD_eq_getElem?_getD, hi]
  rw [eg]
  have e0 : (madeCells #[Value.int IntKind.i64 0, Value.int IntKind.i64 0, .string ⟨#[]⟩] (n * 3))[i * 3]? = some (.int .i64 0) := by
    simp [madeCells, show i * 3 < n * 3 by omega]
  have e1 : (madeCells #[Value.int IntKind.i64 0, Value.int IntKind.i64 0, .string ⟨#[]⟩] (n * 3))[i * 3 + 1]? = some (.int .i64 0) := by
    simp [madeCells, show i * 3 + 1 < n * 3 by omega, show (i * 3 + 1) % 3 = 1 by omega]
  have e2 : (madeCells #[Value.int IntKind.i64 0, Value.int IntKind.i64 0, .string ⟨#[]⟩] (n * 3))[i * 3 + 2]? = some (.string ⟨#[]⟩) := by
    simp [madeCells, show i * 3 + 2 < n * 3 by omega, show (i * 3 + 2) % 3 = 2 by omega]
  exact ⟨⟨by simp [e0, tn0], by simp [e1, tn0], by simp [e2, tn0]⟩, by simp, by simp, by simp⟩
theorem infoNode : (Try.prog.info? 79).map (fun i => (i.zero, i.size, i.bytes)) = some (some (.agg #[.int .i64 0, .int .i64 0, .string ⟨#[]⟩]), 3, 32) := by kernel_rfl
theorem mkNodes (w : World) (n : Nat) (hn : n ≤ 1048576) : (Instr.makeSlice 30 (.int .i64 (n : Int)) (.int .i64 (n : Int))).run Try.prog w = .ok (.slice (some ⟨w.heap.size, 0, none⟩) n n) (w.alloc (.cells (madeCells #[.int .i64 0, .int .i64 0, .string ⟨#[]⟩] (n * 3)) 79)) := by
  obtain ⟨i, h1, h2, h3, h4⟩ := info_parts infoNode
  have h := run_make (P := Try.prog) w 30 79 i _ Try.underlying30 h1 h2 .i64 .i64 n n (by omega) (by omega) (by rw [h4]; omega) (by omega)
  rw [h3] at h
  exact h
/-- the first k nodes are these -/
def UptoN (k : Nat) (qs xs : List Tn) : Prop := qs.length = xs.length ∧ ∀ i, i < k → qs.getD i tn0 = xs.getD i tn0
theorem UptoN.zero {n : Nat} {xs : List Tn} (hp : xs.length = n) : UptoN 0 (List.replicate n tn0) xs := ⟨by simp [hp], fun i h => by omega⟩
theorem UptoN.step {k : Nat} {qs xs : List Tn} (h : UptoN k qs xs) (hk : k < xs.length) : UptoN (k + 1) (qs.set k (xs.getD k tn0)) xs := by
  refine ⟨by simpa using h.1, fun i hi => ?_⟩
  by_cases e : i = k
  · subst e; simp [List.getD_eq_getElem?_getD, h.1, hk]
  · rw [← h.2 i (by omega)]; simp [List.getD_eq_getElem?_getD, Ne.symm e]
theorem UptoN.all {qs xs : List Tn} (h : UptoN xs.length qs xs) : qs = xs := by
  apply List.ext_getElem h.1
  intro i h1 h2
  have := h.2 i h2
  simpa [List.getD_eq_getElem?_getD, h1, h2] using this

section
variable {H : Type} {enc : TypeId × Value → H} {w : World} {base : Nat}
set_option maxRecDepth 100000 in
theorem open_lnodes {d : DataW H × List MemPlace} {n : Nat} {c : Value} (h1 : DataW.trod enc Try.prog w base (fun _ => true) true n 22 [c] = some d) :
    ∃ (a : Option Addr) (len cap : Nat) (xs : List Tn), c = .slice a len cap ∧ InN w a len cap xs := by
  rcases Deep.open_slice Try.underlying22 h1 with ⟨hc, -⟩ | ⟨a, len, cap, m, k, D, Pl, hc, hb, hl, hm, hmm, -, hx⟩
  · simp at hc
    subst hc
    exact ⟨none, 0, 0, [], rfl, rfl, Nat.le_refl _, Nat.zero_le _, by simp, .inl rfl⟩
  simp at hc
  subst hc
  simp at hmm
  subst hmm
  have ce : Try.prog.cellsOf 127 = 3 := by kernel_rfl
  rw [ce] at hx
  have hz : ∀ i, ∃ p : Tn, i < m → p.fit ∧ w.cells? base (a.add (i * 3)) 3 = some [.int .i64 p.k, .int .i64 p.n, .string p.s] := by
    intro i
    by_cases hi : i < m
    · obtain ⟨cs', hcs, ht⟩ := hx i hi
      obtain ⟨y0, y1, y2, n', -, hlen, t0, t1, t2⟩ := Deep.trod_struct3 Try.underlying127 ht
      rw [ce] at hlen
      match cs', hlen with
      | [v0, v1, v2], _ =>
        have k1 : Try.prog.cellsOf 3 = 1 := by kernel_rfl
        have k2 : Try.prog.cellsOf 9 = 1 := by kernel_rfl
        have t0' : DataW.trod enc Try.prog w base (fun _ => true) true n' 3 [v0] = some y0 := t0
        have t1' : DataW.trod enc Try.prog w base (fun _ => true) true n' 3 [v1] = some y1 := t1
        have t2' : DataW.trod enc Try.prog w base (fun _ => true) true n' 9 [v2] = some y2 := t2
        obtain ⟨x, e0, -, w0⟩ := DataW.trod_int Try.underlying3 t0'
        obtain ⟨y, e1, -, w1⟩ := DataW.trod_int Try.underlying3 t1'
        obtain ⟨s, e2, -, w2⟩ := DataW.trod_string Try.underlying9 t2'
        simp at e0 e1 e2
        subst e0 e1 e2
        exact ⟨⟨x, y, s⟩, fun _ => ⟨⟨bounds_i64 w0, bounds_i64 w1, w2⟩, hcs⟩⟩
    · exact ⟨tn0, fun h => absurd h hi⟩
  obtain ⟨f, hff⟩ := Classical.axiomOfChoice hz
  refine ⟨some a, len, m, (List.range len).map f, rfl, by simp, hl, hm, ?_, ?_⟩
  · intro p hp
    obtain ⟨i, hi, rfl⟩ := List.mem_map.1 hp
    exact (hff i (by have := List.mem_range.1 hi; omega)).1
  by_cases h0 : len = 0
  · exact .inl h0
  obtain ⟨b, off, spot⟩ := a
  have e0 : w.cell? ((⟨b, off, spot⟩ : Addr).add (0 * 3) |>.add 0) = _ := (World.cells?_some (hff 0 (by omega)).2).2.2 0 (by omega)
  have hspot : spot = none := by simpa [Addr.add] using World.cell?_spot e0
  subst hspot
  refine .inr ⟨b, off, rfl, by simpa [Addr.add] using World.block_lt_of_cell? w _ e0, fun i hi => ?_⟩
  have ad : ∀ o j, (⟨b, o, none⟩ : Addr).add j = ⟨b, o + j, none⟩ := by
    intro o j
    by_cases h : j = 0
    · subst h; simp [Addr.add]
    · simp [Addr.add, h]
  have q := (World.cells?_some (hff i (by omega)).2).2.2
  have q0 := q 0 (by omega)
  have q1 := q 1 (by omega)
  have q2 := q 2 (by omega)
  rw [ad, ad] at q0 q1 q2
  have eg : ((List.range len).map f).getD i tn0 = f i := by
    rw [List.getD_eq_getElem?_getD, List.getElem?_map, List.getElem?_range hi]; rfl
  rw [eg]
  exact ⟨q0, q1, q2⟩
set_option maxRecDepth 100000 in
theorem open_lterm {r : Reach} {b0 : Nat} {v : Value} {d : DataW H} {p : List MemPlace} (hv : Value.okWide Try.prog w r b0 24 v) (h : DataW.Trod enc Try.prog w base (fun _ => true) true 24 v d p) :
    ∃ (a : Option Addr) (len cap : Nat) (xs : List Tn), v = .agg #[.slice a len cap] ∧ InN w a len cap xs := by
  obtain ⟨cs, rfl, hsz⟩ := okWide_struct Try.underlying24 hv
  have hC : Try.prog.cellsOf 24 = 1 := by kernel_rfl
  rw [hC] at hsz
  obtain ⟨c, rfl⟩ : ∃ c, cs = #[c] := by
    obtain ⟨l⟩ := cs
    match l, hsz with
    | [c], _ => exact ⟨c, rfl⟩
  obtain ⟨fuel, hf⟩ := h
  obtain ⟨y0, n, -, -, h0⟩ := trod_struct1 Try.underlying24 hf
  have h1 : DataW.trod enc Try.prog w base (fun _ => true) true n 22 [c] = some y0 := by
    exact h0
  obtain ⟨a, len, cap, xs, rfl, q⟩ := open_lnodes h1
  exact ⟨a, len, cap, xs, rfl, q⟩
end
set_option maxHeartbeats 1000000 in
theorem lToNode (x y : Int) (s : ByteArray) (w : World) :
    Calls Try.prog 90 #[.agg #[.int .i64 x, .int .i64 y, .string s]] w fun e w' => e = .returned (.agg #[.int .i64 x, .int .i64 y, .string s]) ∧ Below w.heap.size w w' := by
  go_enter Try.func90, Try.ntmps90
  go_wp2
  refine bodyPost_ret (v := .agg #[.int .i64 x, .int .i64 y, .string s]) ?_ rfl ⟨rfl, (by repeat (first | with_reducible exact Below.refl _ _ | with_reducible refine Below.drew ?_ | ((with_reducible refine Below.setCell ?_ ?_ _); rotate_left; (focus (first | (simp; done) | omega | (simp; omega)))) | with_reducible refine old_alloc ?_ _ | with_reducible refine old_trans ?_ (by with_reducible assumption)))⟩
  simp [results, Try.results90, go_sem]
set_option maxHeartbeats 2000000 in
theorem lToNodes (a : Option Addr) (len cap : Nat) (xs : List Tn) (w : World) (hR : InN w a len cap xs) (hl : len ≤ 1048576) :
    Calls Try.prog 40 #[.slice a len cap] w fun e w' => (e = .returned (.slice (some ⟨w.heap.size, 0, none⟩) len len) ∧ RowN w' w.heap.size xs) ∧ Below w.heap.size w w' := by
  have hmk := mkNodes w len hl
  have hr0 := RowN.made w len 79
  have hb0 : Below w.heap.size w (w.alloc (.cells (madeCells #[.int .i64 0, .int .i64 0, .string ⟨#[]⟩] (len * 3)) 79)) := (Below.refl _ w).alloc (Nat.le_refl _) _
  generalize w.alloc (.cells (madeCells #[.int .i64 0, .int .i64 0, .string ⟨#[]⟩] (len * 3)) 79) = w0 at *
  have hp := hR.1
  go_enter Try.func40, Try.ntmps40
  go_wp2
  go_loopw [4] (fun a wr => ∃ (k : Nat) (qs : List Tn), k ≤ len ∧ a = .int .i64 k ∧ UptoN k qs xs ∧ RowN wr w.heap.size qs ∧ Below w.heap.size w wr) (fun b _ => len - (intOf b).toNat)
  case atStart => exact ⟨0, _, by omega, rfl, UptoN.zero hp, hr0, hb0⟩
  case round =>
    obtain ⟨k, qs, hk, rfl, hu, hr, hb⟩ := hrel
    by_cases hlt : k < len
    · obtain ⟨b, off, x, y, s, rfl, hbl, hx, -, c0, c1, c2⟩ := (hR.old hb).at hlt
      go_wp2_with fail
      refine (lToNode x y s _).mono ?_
      rintro e w1 ⟨rfl, hb1⟩
      have hr1 := hr.old hb1
      obtain ⟨x', y', s', d0, d1, d2, f0, f1, f2⟩ := hr1.at (k := k) (by rw [hu.1]; omega)
      go_wp2
      go_roundw
      case rel =>
        refine ⟨k + 1, _, by omega, by go_num, hu.step (by omega), ?_, ?_⟩
        · rw [hx]; exact hr1.set k (by rw [hu.1]; omega) ⟨x, y, s⟩
        · exact (((hb.trans (hb1.mono hb.size)).setCell (p := ⟨w.heap.size, k * 3, none⟩) (Nat.le_refl _) _).setCell (p := ⟨w.heap.size, k * 3 + 1, none⟩) (Nat.le_refl _) _).setCell (p := ⟨w.heap.size, k * 3 + 2, none⟩) (Nat.le_refl _) _
      case measure => simp [intOf]; omega
    · obtain rfl : k = len := by omega
      go_wp2
      go_ret
      subst hp
      exact ⟨⟨rfl, by rw [← hu.all]; exact hr⟩, hb⟩
set_option maxHeartbeats 1000000 in
theorem lToTerm (a : Option Addr) (len cap : Nat) (xs : List Tn) (w : World) (hR : InN w a len cap xs) (hl : len ≤ 1048576) :
    Calls Try.prog 10 #[.agg #[.slice a len cap]] w fun e w' => (∃ b, e = .returned (.agg #[.slice (some ⟨b, 0, none⟩) len len]) ∧ w.heap.size ≤ b ∧ RowN w' b xs) ∧ Below w.heap.size w w' := by
  go_enter Try.func10, Try.ntmps10
  have k1 : CS (((w.alloc (.cells #[.slice a len cap] 24)).alloc (.cells #[.slice none 0 0] 32)).alloc (.cells #[.slice none 0 0] 32)) (w.heap.size + 1) [.slice none 0 0] := (CS.made _ _ (by simp) #[_] _).alloc _
  have k2 : CS (((w.alloc (.cells #[.slice a len cap] 24)).alloc (.cells #[.slice none 0 0] 32)).alloc (.cells #[.slice none 0 0] 32)) (w.heap.size + 1 + 1) [.slice none 0 0] := CS.made _ _ (by simp) #[_] _
  go_wp2_with fail
  have hR2 := ((hR.old ((Below.refl _ w).alloc (Nat.le_refl _) (.cells #[.slice a len cap] 24))).old ((Below.refl _ _).alloc (Nat.le_refl _) (.cells #[.slice none 0 0] 32))).old ((Below.refl _ _).alloc (Nat.le_refl _) (.cells #[.slice none 0 0] 32))
  refine (lToNodes a len cap xs _ hR2 hl).mono ?_
  rintro e w1 ⟨⟨rfl, hr⟩, hb1⟩
  replace k1 := k1.later hb1
  replace k2 := k2.later hb1
  have c1 := k1.cell 0 _ rfl
  have f1 := k1.froz 0 (by decide)
  have l1 := k1.lt
  have c2 := k2.cell 0 _ rfl
  have f2 := k2.froz 0 (by decide)
  have l2 := k2.lt
  clear k1 k2
  have hlt := hr.1
  simp only [World.size_alloc] at hr hlt
  have hB : Below w.heap.size w w1 := old_trans (((Below.refl _ w).alloc (Nat.le_refl _) _).alloc (by simp) _ |>.alloc (by simp; omega) _) hb1
  go_wp2
  have hr2 := (hr.other (w.heap.size + 1 + 1) 0 (by omega) (.slice (some ⟨w.heap.size + 1 + 1 + 1, 0, none⟩) len len)).other (w.heap.size + 1) 0 (by omega) (.slice (some ⟨w.heap.size + 1 + 1 + 1, 0, none⟩) len len)
  refine bodyPost_ret (v := .agg #[.slice (some ⟨w.heap.size + 1 + 1 + 1, 0, none⟩) len len]) ?_ rfl ⟨⟨_, rfl, by omega, hr2⟩, (hB.setCell (p := ⟨w.heap.size + 1 + 1, 0, none⟩) (by simp; omega) _).setCell (p := ⟨w.heap.size + 1, 0, none⟩) (by simp) _⟩
  simp [results, Try.results10, go_sem, c1]
end Go.Proofs.Ytcdhmimbnnicnaa
