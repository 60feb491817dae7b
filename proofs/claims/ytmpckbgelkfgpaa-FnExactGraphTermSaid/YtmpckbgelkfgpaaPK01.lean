/- Lists of whole numbers: what lies in memory, what a law's own copy, comparison, mark and look do. Conditions: lists of 2^20 numbers at most. -/
import Derived.Test.YtmpckbgelkfgpaaRows
import Derived.WalkKit
import Derived.WalkSpells
import Derived.WalkLawsBesides
import Derived.ProofKit
import Derived.OpenShut
import Derived.OwnWalk
import Derived.BigQuiet
import Derived.Deep.QuietTactic
import Derived.RangeFuncBox
import Derived.Maps.AppendAt
import Derived.Lib.SmallJoins
import Derived.ChangeOld
import Derived.ShutString
import Derived.Laws.RangeString
import Derived.Laws.RangeAny
import Derived.Laws.DeepStrings4
import Derived.Lib.OthersKept
import Derived.LoopN
import Derived.KernelRfl
import Derived.Deep.Slices
import Derived.Deep.Strs
import Derived.Laws.StructEq
namespace Go.Proofs.Ytmpckbgelkfgpaa
open Go.ChangeShapes Go.WideShapes Go.ChangeAt Go.RowKit
set_option linter.unusedVariables false
set_option maxRecDepth 100000

theorem hd {p : Prop} (h : p) : Hid p := h
theorem old_alloc {a b : World} (h : Below a.heap.size a b) (o : Obj) : Below a.heap.size a (b.alloc o) := h.alloc h.size o
theorem old_trans {a b c : World} (h : Below a.heap.size a b) (k : Below b.heap.size b c) : Below a.heap.size a c := h.trans (k.mono h.size)
theorem grown_set {w w' : World} {b : Nat} (h : w.grownBy w' (some b)) (i : Nat) (v : Value) : w.grownBy (w'.setCell ⟨b, i, none⟩ v) (some b) :=
  ⟨h.os, h.tape, h.output, by simpa [World.setCell] using h.size, fun k hk hne => (Below.heap_setCell _ _ _ _ (by intro e; exact hne (by rw [e]))).trans (h.block k hk hne)⟩
theorem grown_below {w w' : World} (h : Below w.heap.size w w') : w.grownBy w' none := ⟨h.1, h.2, h.3, h.4, fun k hk _ => h.5 k hk⟩

/-- numbers in a block of their own -/
def IRow (w : World) (b : Nat) (xs : List Int) : Prop :=
  b < w.heap.size ∧ ∀ i, i < xs.length → w.cell? ⟨b, i, none⟩ = some (.int .i64 (xs.getD i 0)) ∧ w.frozen? ⟨b, i, none⟩ = false
def IFits (xs : List Int) : Prop := ∀ x ∈ xs, -9223372036854775808 ≤ x ∧ x ≤ 9223372036854775807
/-- numbers that lie somewhere -/
def InI (w : World) (a : Option Addr) (len cap : Nat) (xs : List Int) : Prop :=
  xs.length = len ∧ len ≤ cap ∧ cap ≤ maxLen ∧ IFits xs ∧
  (len = 0 ∨ ∃ b off : Nat, a = some ⟨b, off, none⟩ ∧ b < w.heap.size ∧ ∀ i, i < len → w.cell? ⟨b, off + i, none⟩ = some (.int .i64 (xs.getD i 0)))
theorem InI.old {w w' : World} {a : Option Addr} {len cap : Nat} {xs : List Int} (h : InI w a len cap xs) (b : Below w.heap.size w w') : InI w' a len cap xs := by
  obtain ⟨h1, h2, h3, h4, h5⟩ := h
  refine ⟨h1, h2, h3, h4, ?_⟩
  rcases h5 with h5 | ⟨bb, off, q1, q2, q3⟩
  · exact .inl h5
  · exact .inr ⟨bb, off, q1, Nat.lt_of_lt_of_le q2 b.size, fun i hi => (b.cell (p := ⟨bb, off + i, none⟩) q2).trans (q3 i hi)⟩
theorem InI.alloc {w : World} {a : Option Addr} {len cap : Nat} {xs : List Int} (h : InI w a len cap xs) (o : Obj) : InI (w.alloc o) a len cap xs := h.old ((Below.refl _ _).alloc (Nat.le_refl _) o)
theorem InI.drew {w : World} {a : Option Addr} {len cap : Nat} {xs : List Int} (h : InI w a len cap xs) : InI w.drew a len cap xs := h
theorem getD_mem {xs : List Int} {k : Nat} (hk : k < xs.length) : xs.getD k 0 ∈ xs := by
  have e2 : xs.getD k 0 = xs[k]'hk := by rw [List.getD_eq_getElem?_getD, List.getElem?_eq_getElem hk]; rfl
  rw [e2]
  exact List.getElem_mem _
theorem InI.at {w : World} {a : Option Addr} {len cap : Nat} {xs : List Int} (h : InI w a len cap xs) {k : Nat} (hk : k < len) : ∃ (b off : Nat) (x : Int), a = some ⟨b, off, none⟩ ∧ b < w.heap.size ∧ xs.getD k 0 = x ∧ (-9223372036854775808 ≤ x ∧ x ≤ 9223372036854775807) ∧ w.cell? ⟨b, off + k, none⟩ = some (.int .i64 x) := by
  rcases h.2.2.2.2 with h0 | ⟨b, off, e, hb, hc⟩
  · omega
  · exact ⟨b, off, _, e, hb, rfl, h.2.2.2.1 _ (getD_mem (by rw [h.1]; exact hk)), hc k hk⟩
theorem InI.kept {w w' : World} {a : Option Addr} {len cap : Nat} {xs : List Int} {row : Option Nat} (h : InI w a len cap xs) (g : w.grownBy w' row) (hne : 0 < len → ∀ q, a = some q → some q.block ≠ row) : InI w' a len cap xs := by
  obtain ⟨h1, h2, h3, h4, h5⟩ := h
  refine ⟨h1, h2, h3, h4, ?_⟩
  by_cases h0 : len = 0
  · exact .inl h0
  rcases h5 with h5 | ⟨b, off, q1, q2, q3⟩
  · exact .inl h5
  · refine .inr ⟨b, off, q1, Nat.lt_of_lt_of_le q2 g.size, fun i hi => ?_⟩
    have e := g.block b q2 (hne (by omega) _ q1)
    exact (World.cell?_of_block (a := ⟨b, off + i, none⟩) e).trans (q3 i hi)
theorem InI.far {w : World} {a : Option Addr} {len cap : Nat} {xs : List Int} (h : InI w a len cap xs) : 0 < len → ∀ q, a = some q → q.block < w.heap.size := by
  intro h0 q e
  rcases h.2.2.2.2 with h5 | ⟨b, off, q1, q2, -⟩
  · omega
  · rw [q1] at e; cases e; exact q2
theorem InI.len {w : World} {a : Option Addr} {len cap : Nat} {xs : List Int} (h : InI w a len cap xs) : len ≤ 9223372036854775807 := by
  have := Nat.le_trans h.2.1 h.2.2.1
  unfold maxLen at this
  omega
theorem IRow.old {w w' : World} {b : Nat} {xs : List Int} (h : IRow w b xs) (k : Below w.heap.size w w') : IRow w' b xs :=
  ⟨Nat.lt_of_lt_of_le h.1 k.size, fun i hi => ⟨(k.cell (p := ⟨b, i, none⟩) h.1).trans (h.2 i hi).1, (k.frozen (p := ⟨b, i, none⟩) h.1).trans (h.2 i hi).2⟩⟩
theorem IRow.at {w : World} {b : Nat} {xs : List Int} (h : IRow w b xs) {k : Nat} (hk : k < xs.length) : ∃ x : Int, xs.getD k 0 = x ∧ w.cell? ⟨b, k, none⟩ = some (.int .i64 x) ∧ w.frozen? ⟨b, k, none⟩ = false := ⟨_, rfl, (h.2 k hk).1, (h.2 k hk).2⟩
theorem IRow.set {w : World} {b : Nat} {xs : List Int} (h : IRow w b xs) (k : Nat) (hk : k < xs.length) (x : Int) : IRow (w.setCell ⟨b, k, none⟩ (.int .i64 x)) b (xs.set k x) := by
  refine ⟨by simpa [World.setCell] using h.1, fun i hi => ?_⟩
  rw [List.length_set] at hi
  obtain ⟨h1, h3⟩ := h.2 i hi
  by_cases e : i = k
  · subst e
    have eg : (xs.set i x).getD i 0 = x := by simp [List.getD_eq_getElem?_getD, hk]
    rw [eg]
    exact ⟨World.cell?_setCell_same _ _ _ h1, by simpa using h3⟩
  · have eg : (xs.set k x).getD i 0 = xs.getD i 0 := by simp [List.getD_eq_getElem?_getD, Ne.symm e]
    rw [eg]
    refine ⟨?_, by simpa using h3⟩
    rw [World.cell?_setCell_other _ _ _ _ (by intro h; injection h with _ h2; omega)]; exact h1
theorem IRow.kept {w w' : World} {c : Nat} {xs : List Int} {row : Option Nat} (h : IRow w c xs) (g : w.grownBy w' row) (hne : some c ≠ row) : IRow w' c xs := by
  refine ⟨Nat.lt_of_lt_of_le h.1 g.size, fun i hi => ?_⟩
  have e := g.block c h.1 hne
  exact ⟨(World.cell?_of_block (a := ⟨c, i, none⟩) e).trans (h.2 i hi).1, (World.frozen?_of_block (a := ⟨c, i, none⟩) e).trans (h.2 i hi).2⟩
theorem IRow.made (w : World) (n : Nat) (t : TypeId) : IRow (w.alloc (.cells (madeCells #[.int .i64 0] (n * 1)) t)) w.heap.size (List.replicate n 0) := by
  refine ⟨by simp, fun i hi => ?_⟩
  rw [List.length_replicate] at hi
  have eg : (List.replicate n (0 : Int)).getD i 0 = 0 := by simp [List.getD_eq_getElem?_getD, hi]
  rw [eg]
  have e0 : (madeCells #[Value.int IntKind.i64 0] (n * 1))[i]? = some (.int .i64 0) := by
    simp [madeCells, show i < n by omega, Nat.mod_one]
  exact ⟨by simpa using e0, by simp⟩

/-- the first k numbers are these -/
def IUpto (k : Nat) (qs xs : List Int) : Prop := qs.length = xs.length ∧ ∀ i, i < k → qs.getD i 0 = xs.getD i 0
theorem IUpto.zero {qs xs : List Int} (hp : qs.length = xs.length) : IUpto 0 qs xs := ⟨hp, fun i h => by omega⟩
theorem IUpto.step {k : Nat} {qs xs : List Int} (h : IUpto k qs xs) (hk : k < xs.length) : IUpto (k + 1) (qs.set k (xs.getD k 0)) xs := by
  refine ⟨by simpa using h.1, fun i hi => ?_⟩
  by_cases e : i = k
  · subst e; simp [List.getD_eq_getElem?_getD, h.1, hk]
  · rw [← h.2 i (by omega)]; simp [List.getD_eq_getElem?_getD, Ne.symm e]
theorem IUpto.all {qs xs : List Int} (h : IUpto xs.length qs xs) : qs = xs := by
  apply List.ext_getElem h.1
  intro i h1 h2
  have := h.2 i h2
  simpa [List.getD_eq_getElem?_getD, h1, h2] using this

section
variable {H : Type} {enc : TypeId × Value → H} {w : World} {base : Nat}
end
end Go.Proofs.Ytmpckbgelkfgpaa

/- Texts byte by byte; letters, digits and names, of both sides; nothing is written. No condition. -/
namespace Go.Proofs.Ytmpckbgelkfgpaa
open Go.RowKit
set_option linter.unusedVariables false
set_option maxRecDepth 100000

/-- the byte at a place -/
def byt (s : ByteArray) (k : Nat) : Int := ((s.data.toList.getD k 0).toNat : Int)
theorem byt_bd (s : ByteArray) (k : Nat) : 0 ≤ byt s k ∧ byt s k ≤ 255 := by
  unfold byt
  have := (s.data.toList.getD k 0).toNat_lt
  omega
theorem byt_at (s : ByteArray) (k : Nat) (h : k < s.size) : ((s[k]'h).toNat : Int) = byt s k := by
  obtain ⟨d⟩ := s
  have hd : k < d.size := h
  have e : d.toList.getD k 0 = d[k] := by simp [List.getD_eq_getElem?_getD, hd]
  show ((d[k]'hd).toNat : Int) = ((d.toList.getD k 0).toNat : Int)
  rw [e]
theorem idxS {t : TypeId} (ht : Try.prog.underlying t = some .string) (s : ByteArray) (k : Nat) (h : k < s.size) (w : World) :
    (Instr.index t (.string s) (.int .i64 (k : Int))).run Try.prog w = .ok (.int .u8 (byt s k)) w := by
  rw [run_index_string (h := ht), dif_pos ⟨by omega, by omega⟩]
  have := byt_at s k h
  simp only [Int.toNat_natCast]
  rw [this]
theorem idxS0 {t : TypeId} (ht : Try.prog.underlying t = some .string) (s : ByteArray) (h : 0 < s.size) (w : World) :
    (Instr.index t (.string s) (.int .i64 0)).run Try.prog w = .ok (.int .u8 (byt s 0)) w := idxS ht s 0 h w
/-- cells of a block that is no one else's -/
structure CS (w : World) (b : Nat) (vs : List Value) : Prop where
  cell : ∀ i v, vs[i]? = some v → w.cell? ⟨b, i, none⟩ = some v
  froz : ∀ i, i < vs.length → w.frozen? ⟨b, i, none⟩ = false
  lt : b < w.heap.size
theorem CS.later {w w1 : World} {b : Nat} {vs : List Value} (h : CS w b vs) (hb : Below w.heap.size w w1) : CS w1 b vs :=
  ⟨fun i v hi => (hb.cell (p := ⟨b, i, none⟩) h.lt).trans (h.cell i v hi), fun i hi => (hb.frozen (p := ⟨b, i, none⟩) h.lt).trans (h.froz i hi), Nat.lt_of_lt_of_le h.lt hb.size⟩
theorem CS.alloc {w : World} {b : Nat} {vs : List Value} (h : CS w b vs) (o : Obj) : CS (w.alloc o) b vs := h.later ((Below.refl _ _).alloc (Nat.le_refl _) o)
theorem CS.drew {w : World} {b : Nat} {vs : List Value} (h : CS w b vs) : CS w.drew b vs := ⟨h.cell, h.froz, h.lt⟩
theorem CS.made (w : World) (b : Nat) (hb : b = w.heap.size) (vs : Array Value) (t : TypeId) : CS (w.alloc (.cells vs t)) b vs.toList := by
  subst hb
  exact ⟨fun i v hi => by simpa using hi, fun i hi => by simp, by simp⟩
theorem CS.far {w : World} {b c i : Nat} {vs : List Value} (h : CS w b vs) (hn : b ≠ c) (v : Value) : CS (w.setCell ⟨c, i, none⟩ v) b vs := by
  have o : ∀ (j : Nat), (w.setCell ⟨c, i, none⟩ v).cell? ⟨b, j, none⟩ = w.cell? ⟨b, j, none⟩ := fun j => World.cell?_setCell_other _ _ _ _ (by intro h; injection h with h2 _; omega)
  exact ⟨fun j u hj => (o j).trans (h.cell j u hj), fun j hj => by simpa using h.froz j hj, by simpa [World.setCell] using h.lt⟩
theorem CS.stored {w : World} {b i : Nat} {vs : List Value} (h : CS w b vs) (v : Value) (hi : i < vs.length) : CS (w.setCell ⟨b, i, none⟩ v) b (vs.set i v) := by
  refine ⟨fun j u hj => ?_, fun j hj => by simpa using h.froz j (by simpa using hj), by simpa [World.setCell] using h.lt⟩
  by_cases e : i = j
  · subst e
    rw [List.getElem?_set_self hi] at hj
    obtain rfl := Option.some.inj hj
    exact World.cell?_setCell_same _ _ _ (h.cell i _ (List.getElem?_eq_getElem hi))
  · rw [List.getElem?_set_ne e] at hj
    exact (World.cell?_setCell_other _ _ _ _ (by intro h; injection h with _ h2; omega)).trans (h.cell j u hj)

def isD (n : Int) : Bool := decide (48 ≤ n) && decide (n ≤ 57)
def isL (n : Int) : Bool := decide (97 ≤ n) && decide (n ≤ 122)
def isW (n : Int) : Bool := isL n || isD n
theorem isW_high {n : Int} (h : 128 ≤ n) : isW n = false := by unfold isW isL isD; simp; omega
theorem iIsLetter (n : Int) (w : World) : Calls Try.prog 138 #[.int .i32 n] w fun e w' => e = .returned (.bool (isL n)) ∧ w' = w := by
  unfold isL
  go_enter Try.func138, Try.ntmps138
  go_wp2
  all_goals go_ret
  all_goals (refine ⟨?_, rfl⟩; first | rfl | (simp; omega) | (simp_all; done) | (simp_all; omega))
theorem iIsDigit (n : Int) (w : World) : Calls Try.prog 152 #[.int .i32 n] w fun e w' => e = .returned (.bool (isD n)) ∧ w' = w := by
  unfold isD
  go_enter Try.func152, Try.ntmps152
  go_wp2
  all_goals go_ret
  all_goals (refine ⟨?_, rfl⟩; first | rfl | (simp; omega) | (simp_all; done) | (simp_all; omega))
theorem sLetter (n : Int) (w : World) : Calls Try.prog 149 #[.int .u8 n] w fun e w' => e = .returned (.bool (isL n)) ∧ w' = w := by
  unfold isL
  go_enter Try.func149, Try.ntmps149
  go_wp2
  all_goals go_ret
  all_goals (refine ⟨?_, rfl⟩; first | rfl | (simp; omega) | (simp_all; done) | (simp_all; omega))
theorem sDigit (n : Int) (w : World) : Calls Try.prog 150 #[.int .u8 n] w fun e w' => e = .returned (.bool (isD n)) ∧ w' = w := by
  unfold isD
  go_enter Try.func150, Try.ntmps150
  go_wp2
  all_goals go_ret
  all_goals (refine ⟨?_, rfl⟩; first | rfl | (simp; omega) | (simp_all; done) | (simp_all; omega))
theorem iBegins (n : Int) (w : World) : Calls Try.prog 139 #[.int .i32 n] w fun e w' => e = .returned (.bool (isW n)) ∧ w' = w := by
  have L := hd (iIsLetter n)
  have D := hd (iIsDigit n)
  unfold isW
  generalize isL n = l at *
  generalize isD n = d at *
  go_enter Try.func139, Try.ntmps139
  go_wp2_with fail
  refine (L.out _).mono ?_
  rintro e w1 ⟨rfl, rfl⟩
  cases l
  · go_wp2_with fail
    refine (D.out _).mono ?_
    rintro e w1 ⟨rfl, rfl⟩
    go_wp2
    go_ret
    exact ⟨rfl, rfl⟩
  · go_wp2
    go_ret
    exact ⟨rfl, rfl⟩
end Go.Proofs.Ytmpckbgelkfgpaa

/- What a function that answers yes or no says. No condition. -/
namespace Go.Proofs.Ytmpckbgelkfgpaa
open Go.RowKit
set_option linter.unusedVariables false
set_option maxRecDepth 100000

def BoolIs (e : Ending) (P : Prop) : Prop := ∃ r : Bool, e = .returned (.bool r) ∧ (r = true ↔ P)
theorem BoolIs.mk {r : Bool} {P : Prop} (h : r = true ↔ P) : BoolIs (.returned (.bool r)) P := ⟨r, rfl, h⟩
end Go.Proofs.Ytmpckbgelkfgpaa

/- Nodes of terms in memory: what an argument gives when it is opened; a law's own copy, size and comparison. Conditions: lists of 2^20 nodes at most. -/
namespace Go.Proofs.Ytmpckbgelkfgpaa
open Go.ChangeShapes Go.WideShapes Go.ChangeAt Go.RowKit
set_option linter.unusedVariables false
set_option maxRecDepth 100000

structure Tn where
  k : Int
  n : Int
  s : ByteArray
def tn0 : Tn := ⟨0, 0, ⟨#[]⟩⟩
def Tn.fit (x : Tn) : Prop := (-9223372036854775808 ≤ x.k ∧ x.k ≤ 9223372036854775807) ∧ (-9223372036854775808 ≤ x.n ∧ x.n ≤ 9223372036854775807) ∧ x.s.size ≤ maxLen
def NC (w : World) (b o : Nat) (x : Tn) : Prop := w.cell? ⟨b, o, none⟩ = some (.int .i64 x.k) ∧ w.cell? ⟨b, o + 1, none⟩ = some (.int .i64 x.n) ∧ w.cell? ⟨b, o + 2, none⟩ = some (.string x.s)
/-- nodes that lie somewhere -/
def InN (w : World) (a : Option Addr) (len cap : Nat) (xs : List Tn) : Prop :=
  xs.length = len ∧ len ≤ cap ∧ cap ≤ maxLen ∧ (∀ x ∈ xs, x.fit) ∧
  (len = 0 ∨ ∃ b off : Nat, a = some ⟨b, off, none⟩ ∧ b < w.heap.size ∧ ∀ i, i < len → NC w b (off + i * 3) (xs.getD i tn0))
theorem NC.old {w w' : World} {b o : Nat} {x : Tn} (h : NC w b o x) (k : Below w.heap.size w w') (hb : b < w.heap.size) : NC w' b o x :=
  ⟨(k.cell (p := ⟨b, o, none⟩) hb).trans h.1, (k.cell (p := ⟨b, o + 1, none⟩) hb).trans h.2.1, (k.cell (p := ⟨b, o + 2, none⟩) hb).trans h.2.2⟩
theorem InN.old {w w' : World} {a : Option Addr} {len cap : Nat} {xs : List Tn} (h : InN w a len cap xs) (b : Below w.heap.size w w') : InN w' a len cap xs := by
  obtain ⟨h1, h2, h3, h4, h5⟩ := h
  refine ⟨h1, h2, h3, h4, ?_⟩
  rcases h5 with h5 | ⟨bb, off, q1, q2, q3⟩
  · exact .inl h5
  · exact .inr ⟨bb, off, q1, Nat.lt_of_lt_of_le q2 b.size, fun i hi => (q3 i hi).old b q2⟩
theorem getD_memT {xs : List Tn} {k : Nat} (hk : k < xs.length) : xs.getD k tn0 ∈ xs := by
  have e2 : xs.getD k tn0 = xs[k]'hk := by rw [List.getD_eq_getElem?_getD, List.getElem?_eq_getElem hk]; rfl
  rw [e2]
  exact List.getElem_mem _
theorem InN.at {w : World} {a : Option Addr} {len cap : Nat} {xs : List Tn} (h : InN w a len cap xs) {k : Nat} (hk : k < len) : ∃ (b off : Nat) (x y : Int) (s : ByteArray), a = some ⟨b, off, none⟩ ∧ b < w.heap.size ∧ xs.getD k tn0 = ⟨x, y, s⟩ ∧ Tn.fit ⟨x, y, s⟩ ∧ w.cell? ⟨b, off + k * 3, none⟩ = some (.int .i64 x) ∧ w.cell? ⟨b, off + k * 3 + 1, none⟩ = some (.int .i64 y) ∧ w.cell? ⟨b, off + k * 3 + 2, none⟩ = some (.string s) := by
  rcases h.2.2.2.2 with h0 | ⟨b, off, e, hb, hc⟩
  · omega
  · have hl := h.1
    have q := hc k hk
    exact ⟨b, off, _, _, _, e, hb, rfl, h.2.2.2.1 _ (getD_memT (by omega)), q.1, q.2.1, q.2.2⟩
/-- nodes in a block of their own -/
def RowN (w : World) (b : Nat) (xs : List Tn) : Prop :=
  b < w.heap.size ∧ ∀ i, i < xs.length → NC w b (i * 3) (xs.getD i tn0) ∧ w.frozen? ⟨b, i * 3, none⟩ = false ∧ w.frozen? ⟨b, i * 3 + 1, none⟩ = false ∧ w.frozen? ⟨b, i * 3 + 2, none⟩ = false
theorem RowN.old {w w' : World} {b : Nat} {xs : List Tn} (h : RowN w b xs) (k : Below w.heap.size w w') : RowN w' b xs :=
  ⟨Nat.lt_of_lt_of_le h.1 k.size, fun i hi => ⟨(h.2 i hi).1.old k h.1, (k.frozen (p := ⟨b, i * 3, none⟩) h.1).trans (h.2 i hi).2.1, (k.frozen (p := ⟨b, i * 3 + 1, none⟩) h.1).trans (h.2 i hi).2.2.1, (k.frozen (p := ⟨b, i * 3 + 2, none⟩) h.1).trans (h.2 i hi).2.2.2⟩⟩
theorem RowN.inN {w : World} {b cap : Nat} {xs : List Tn} (h : RowN w b xs) (f : ∀ x ∈ xs, x.fit) (h1 : xs.length ≤ cap) (h2 : cap ≤ maxLen) : InN w (some ⟨b, 0, none⟩) xs.length cap xs :=
  ⟨rfl, h1, h2, f, .inr ⟨b, 0, rfl, h.1, fun i hi => by rw [Nat.zero_add]; exact (h.2 i hi).1⟩⟩
theorem RowN.at {w : World} {b : Nat} {xs : List Tn} (h : RowN w b xs) {k : Nat} (hk : k < xs.length) : ∃ (x y : Int) (s : ByteArray), w.cell? ⟨b, k * 3, none⟩ = some (.int .i64 x) ∧ w.cell? ⟨b, k * 3 + 1, none⟩ = some (.int .i64 y) ∧ w.cell? ⟨b, k * 3 + 2, none⟩ = some (.string s) ∧ w.frozen? ⟨b, k * 3, none⟩ = false ∧ w.frozen? ⟨b, k * 3 + 1, none⟩ = false ∧ w.frozen? ⟨b, k * 3 + 2, none⟩ = false :=
  ⟨_, _, _, (h.2 k hk).1.1, (h.2 k hk).1.2.1, (h.2 k hk).1.2.2, (h.2 k hk).2.1, (h.2 k hk).2.2.1, (h.2 k hk).2.2.2⟩
theorem cellN_other (W : World) (b b' i j : Nat) (v : Value) (hn : b ≠ b' ∨ i ≠ j) : (W.setCell ⟨b', j, none⟩ v).cell? ⟨b, i, none⟩ = W.cell? ⟨b, i, none⟩ := World.cell?_setCell_other _ _ _ _ (by intro h; injection h with h1 h2; omega)
theorem RowN.set {w : World} {b : Nat} {xs : List Tn} (h : RowN w b xs) (k : Nat) (hk : k < xs.length) (x : Tn) : RowN (((w.setCell ⟨b, k * 3, none⟩ (.int .i64 x.k)).setCell ⟨b, k * 3 + 1, none⟩ (.int .i64 x.n)).setCell ⟨b, k * 3 + 2, none⟩ (.string x.s)) b (xs.set k x) := by
  refine ⟨by simpa [World.setCell] using h.1, fun i hi => ?_⟩
  rw [List.length_set] at hi
  obtain ⟨⟨h1, h2, h3⟩, f1, f2, f3⟩ := h.2 i hi
  refine ⟨?_, by simpa using f1, by simpa using f2, by simpa using f3⟩
  by_cases e : i = k
  · subst e
    have eg : (xs.set i x).getD i tn0 = x := by simp [List.getD_eq_getElem?_getD, hk]
    rw [eg]
    refine ⟨?_, ?_, ?_⟩
    · rw [cellN_other _ _ _ _ _ _ (by omega), cellN_other _ _ _ _ _ _ (by omega)]; exact World.cell?_setCell_same _ _ _ h1
    · rw [cellN_other _ _ _ _ _ _ (by omega)]; exact World.cell?_setCell_same _ _ _ ((cellN_other _ _ _ _ _ _ (by omega)).trans h2)
    · exact World.cell?_setCell_same _ _ _ ((cellN_other _ _ _ _ _ _ (by omega)).trans ((cellN_other _ _ _ _ _ _ (by omega)).trans h3))
  · have eg : (xs.set k x).getD i tn0 = xs.getD i tn0 := by simp [List.getD_eq_getElem?_getD, Ne.symm e]
    rw [eg]
    refine ⟨?_, ?_, ?_⟩
    · rw [cellN_other _ _ _ _ _ _ (by omega), cellN_other _ _ _ _ _ _ (by omega), cellN_other _ _ _ _ _ _ (by omega)]; exact h1
    · rw [cellN_other _ _ _ _ _ _ (by omega), cellN_other _ _ _ _ _ _ (by omega), cellN_other _ _ _ _ _ _ (by omega)]; exact h2
    · rw [cellN_other _ _ _ _ _ _ (by omega), cellN_other _ _ _ _ _ _ (by omega), cellN_other _ _ _ _ _ _ (by omega)]; exact h3
theorem RowN.other {w : World} {b : Nat} {xs : List Tn} (h : RowN w b xs) (b' j : Nat) (hne : b ≠ b') (y : Value) : RowN (w.setCell ⟨b', j, none⟩ y) b xs := by
  refine ⟨by simpa [World.setCell] using h.1, fun i hi => ?_⟩
  obtain ⟨⟨h1, h2, h3⟩, f1, f2, f3⟩ := h.2 i hi
  exact ⟨⟨(cellN_other _ _ _ _ _ _ (.inl hne)).trans h1, (cellN_other _ _ _ _ _ _ (.inl hne)).trans h2, (cellN_other _ _ _ _ _ _ (.inl hne)).trans h3⟩, by simpa using f1, by simpa using f2, by simpa using f3⟩
theorem RowN.made (w : World) (n : Nat) (t : TypeId) : RowN (w.alloc (.cells (madeCells #[.int .i64 0, .int .i64 0, .string ⟨#[]⟩] (n * 3)) t)) w.heap.size (List.replicate n tn0) := by
  refine ⟨by simp, fun i hi => ?_⟩
  rw [List.length_replicate] at hi
  have eg : (List.replicate n tn0).getD i tn0 = tn0 := by simp [List.getD_eq_getElem?_getD, hi]
  rw [eg]
  have e0 : (madeCells #[Value.int IntKind.i64 0, Value.int IntKind.i64 0, .string ⟨#[]⟩] (n * 3))[i * 3]? = some (.int .i64 0) := by
    simp [madeCells, show i * 3 < n * 3 by omega]
  have e1 : (madeCells #[Value.int IntKind.i64 0, Value.int IntKind.i64 0, .string ⟨#[]⟩] (n * 3))[i * 3 + 1]? = some (.int .i64 0) := by
    simp [madeCells, show i * 3 + 1 < n * 3 by omega, show (i * 3 + 1) % 3 = 1 by omega]
  have e2 : (madeCells #[Value.int IntKind.i64 0, Value.int IntKind.i64 0, .string ⟨#[]⟩] (n * 3))[i * 3 + 2]? = some (.string ⟨#[]⟩) := by
    simp [madeCells, show i * 3 + 2 < n * 3 by omega, show (i * 3 + 2) % 3 = 2 by omega]
  exact ⟨⟨by simp [e0, tn0], by simp [e1, tn0], by simp [e2, tn0]⟩, by simp, by simp, by simp⟩
theorem infoNode : (Try.prog.info? 104).map (fun i => (i.zero, i.size, i.bytes)) = some (some (.agg #[.int .i64 0, .int .i64 0, .string ⟨#[]⟩]), 3, 32) := by kernel_rfl
/-- the first k nodes are these -/
def UptoN (k : Nat) (qs xs : List Tn) : Prop := qs.length = xs.length ∧ ∀ i, i < k → qs.getD i tn0 = xs.getD i tn0
theorem UptoN.zero {n : Nat} {xs : List Tn} (hp : xs.length = n) : UptoN 0 (List.replicate n tn0) xs := ⟨by simp [hp], fun i h => by omega⟩
theorem UptoN.step {k : Nat} {qs xs : List Tn} (h : UptoN k qs xs) (hk : k < xs.length) : UptoN (k + 1) (qs.set k (xs.getD k tn0)) xs := by
  refine ⟨by simpa using h.1, fun i hi => ?_⟩
  by_cases e : i = k
  · subst e; simp [List.getD_eq_getElem?_getD, h.1, hk]
  · rw [← h.2 i (by omega)]; simp [List.getD_eq_getElem?_getD, Ne.symm e]
theorem UptoN.all {qs xs : List Tn} (h : UptoN xs.length qs xs) : qs = xs := by
  apply List.ext_getElem h.1
  intro i h1 h2
  have := h.2 i h2
  simpa [List.getD_eq_getElem?_getD, h1, h2] using this

section
variable {H : Type} {enc : TypeId × Value → H} {w : World} {base : Nat}
end
end Go.Proofs.Ytmpckbgelkfgpaa

/- The language's own words, of both sides; nothing is written. No condition. -/
namespace Go.Proofs.Ytmpckbgelkfgpaa
open Go.RowKit
set_option linter.unusedVariables false
set_option maxRecDepth 100000

def ownKind (s : ByteArray) : Option Int := if s.toList = [100, 101, 102] then some 0 else if s.toList = [118, 97, 114] then some 0 else if s.toList = [115, 113, 114, 116] then some 9 else if s.toList = [97, 98, 115] then some 10 else if s.toList = [109, 105, 110] then some 11 else if s.toList = [109, 97, 120] then some 12 else none
def isOwn (s : ByteArray) : Bool := (ownKind s).isSome
theorem of_toList {s : ByteArray} {l : List UInt8} (h : s.toList = l) : s = ⟨l.toArray⟩ := by
  obtain ⟨d⟩ := s
  rw [ByteArray.toList_eq] at h
  subst h
  simp
theorem neL {s : ByteArray} {l : List UInt8} (h : ¬ s.toList = l) : (s.toList == l) = false := by simpa using h
theorem neR {s : ByteArray} {l : List UInt8} (h : ¬ s.toList = l) : (l == s.toList) = false := by simp; exact fun e => h e.symm
theorem own_def : ownKind ⟨#[100, 101, 102]⟩ = some 0 := by unfold ownKind; simp [ByteArray.toList_eq]
theorem own_var : ownKind ⟨#[118, 97, 114]⟩ = some 0 := by unfold ownKind; simp [ByteArray.toList_eq]
theorem own_sqrt : ownKind ⟨#[115, 113, 114, 116]⟩ = some 9 := by unfold ownKind; simp [ByteArray.toList_eq]
theorem own_abs : ownKind ⟨#[97, 98, 115]⟩ = some 10 := by unfold ownKind; simp [ByteArray.toList_eq]
theorem own_min : ownKind ⟨#[109, 105, 110]⟩ = some 11 := by unfold ownKind; simp [ByteArray.toList_eq]
theorem own_max : ownKind ⟨#[109, 97, 120]⟩ = some 12 := by unfold ownKind; simp [ByteArray.toList_eq]
theorem own_no {s : ByteArray} (n0 : ¬ s.toList = [100, 101, 102]) (n1 : ¬ s.toList = [118, 97, 114]) (n2 : ¬ s.toList = [115, 113, 114, 116]) (n3 : ¬ s.toList = [97, 98, 115]) (n4 : ¬ s.toList = [109, 105, 110]) (n5 : ¬ s.toList = [109, 97, 120]) : ownKind s = none := by unfold ownKind; rw [if_neg n0, if_neg n1, if_neg n2, if_neg n3, if_neg n4, if_neg n5]
theorem own_cases (s : ByteArray) : s = ⟨#[100, 101, 102]⟩ ∨ s = ⟨#[118, 97, 114]⟩ ∨ s = ⟨#[115, 113, 114, 116]⟩ ∨ s = ⟨#[97, 98, 115]⟩ ∨ s = ⟨#[109, 105, 110]⟩ ∨ s = ⟨#[109, 97, 120]⟩ ∨ (¬ s.toList = [100, 101, 102] ∧ ¬ s.toList = [118, 97, 114] ∧ ¬ s.toList = [115, 113, 114, 116] ∧ ¬ s.toList = [97, 98, 115] ∧ ¬ s.toList = [109, 105, 110] ∧ ¬ s.toList = [109, 97, 120]) := by
  by_cases n0 : s.toList = [100, 101, 102]
  · exact .inl (of_toList n0)
  by_cases n1 : s.toList = [118, 97, 114]
  · exact .inr (.inl (of_toList n1))
  by_cases n2 : s.toList = [115, 113, 114, 116]
  · exact .inr (.inr (.inl (of_toList n2)))
  by_cases n3 : s.toList = [97, 98, 115]
  · exact .inr (.inr (.inr (.inl (of_toList n3))))
  by_cases n4 : s.toList = [109, 105, 110]
  · exact .inr (.inr (.inr (.inr (.inl (of_toList n4)))))
  by_cases n5 : s.toList = [109, 97, 120]
  · exact .inr (.inr (.inr (.inr (.inr (.inl (of_toList n5))))))
  exact .inr (.inr (.inr (.inr (.inr (.inr (⟨n0, n1, n2, n3, n4, n5⟩))))))
set_option maxHeartbeats 1000000 in
theorem sWord (s : ByteArray) (w : World) : Calls Try.prog 136 #[.string s] w fun e w' => e = .returned (.bool (isOwn s)) ∧ w' = w := by
  unfold isOwn
  rcases own_cases s with rfl | rfl | rfl | rfl | rfl | rfl | ⟨n0, n1, n2, n3, n4, n5⟩
  · rw [own_def]
    go_enter Try.func136, Try.ntmps136
    go_wp2
    go_ret
    exact ⟨rfl, rfl⟩
  · rw [own_var]
    go_enter Try.func136, Try.ntmps136
    go_wp2
    go_ret
    exact ⟨rfl, rfl⟩
  · rw [own_sqrt]
    go_enter Try.func136, Try.ntmps136
    go_wp2
    go_ret
    exact ⟨rfl, rfl⟩
  · rw [own_abs]
    go_enter Try.func136, Try.ntmps136
    go_wp2
    go_ret
    exact ⟨rfl, rfl⟩
  · rw [own_min]
    go_enter Try.func136, Try.ntmps136
    go_wp2
    go_ret
    exact ⟨rfl, rfl⟩
  · rw [own_max]
    go_enter Try.func136, Try.ntmps136
    go_wp2
    go_ret
    exact ⟨rfl, rfl⟩
  · rw [own_no n0 n1 n2 n3 n4 n5]
    have m0 := neL n0
    clear n0
    have m1 := neL n1
    clear n1
    have m2 := neL n2
    clear n2
    have m3 := neL n3
    clear n3
    have m4 := neL n4
    clear n4
    have m5 := neL n5
    clear n5
    go_enter Try.func136, Try.ntmps136
    go_wp2
    go_ret
    exact ⟨rfl, rfl⟩
theorem oidx0 (w : World) : (Instr.index 187 (.agg #[.string ⟨#[100, 101, 102]⟩, .int .i64 0, .string ⟨#[118, 97, 114]⟩, .int .i64 0, .string ⟨#[115, 113, 114, 116]⟩, .int .i64 9, .string ⟨#[97, 98, 115]⟩, .int .i64 10, .string ⟨#[109, 105, 110]⟩, .int .i64 11, .string ⟨#[109, 97, 120]⟩, .int .i64 12]) (.int .i64 0)).run Try.prog w = .ok (.agg #[.string ⟨#[100, 101, 102]⟩, .int .i64 0]) w := by kernel_rfl
theorem oidx1 (w : World) : (Instr.index 187 (.agg #[.string ⟨#[100, 101, 102]⟩, .int .i64 0, .string ⟨#[118, 97, 114]⟩, .int .i64 0, .string ⟨#[115, 113, 114, 116]⟩, .int .i64 9, .string ⟨#[97, 98, 115]⟩, .int .i64 10, .string ⟨#[109, 105, 110]⟩, .int .i64 11, .string ⟨#[109, 97, 120]⟩, .int .i64 12]) (.int .i64 1)).run Try.prog w = .ok (.agg #[.string ⟨#[118, 97, 114]⟩, .int .i64 0]) w := by kernel_rfl
theorem oidx2 (w : World) : (Instr.index 187 (.agg #[.string ⟨#[100, 101, 102]⟩, .int .i64 0, .string ⟨#[118, 97, 114]⟩, .int .i64 0, .string ⟨#[115, 113, 114, 116]⟩, .int .i64 9, .string ⟨#[97, 98, 115]⟩, .int .i64 10, .string ⟨#[109, 105, 110]⟩, .int .i64 11, .string ⟨#[109, 97, 120]⟩, .int .i64 12]) (.int .i64 2)).run Try.prog w = .ok (.agg #[.string ⟨#[115, 113, 114, 116]⟩, .int .i64 9]) w := by kernel_rfl
theorem oidx3 (w : World) : (Instr.index 187 (.agg #[.string ⟨#[100, 101, 102]⟩, .int .i64 0, .string ⟨#[118, 97, 114]⟩, .int .i64 0, .string ⟨#[115, 113, 114, 116]⟩, .int .i64 9, .string ⟨#[97, 98, 115]⟩, .int .i64 10, .string ⟨#[109, 105, 110]⟩, .int .i64 11, .string ⟨#[109, 97, 120]⟩, .int .i64 12]) (.int .i64 3)).run Try.prog w = .ok (.agg #[.string ⟨#[97, 98, 115]⟩, .int .i64 10]) w := by kernel_rfl
theorem oidx4 (w : World) : (Instr.index 187 (.agg #[.string ⟨#[100, 101, 102]⟩, .int .i64 0, .string ⟨#[118, 97, 114]⟩, .int .i64 0, .string ⟨#[115, 113, 114, 116]⟩, .int .i64 9, .string ⟨#[97, 98, 115]⟩, .int .i64 10, .string ⟨#[109, 105, 110]⟩, .int .i64 11, .string ⟨#[109, 97, 120]⟩, .int .i64 12]) (.int .i64 4)).run Try.prog w = .ok (.agg #[.string ⟨#[109, 105, 110]⟩, .int .i64 11]) w := by kernel_rfl
theorem oidx5 (w : World) : (Instr.index 187 (.agg #[.string ⟨#[100, 101, 102]⟩, .int .i64 0, .string ⟨#[118, 97, 114]⟩, .int .i64 0, .string ⟨#[115, 113, 114, 116]⟩, .int .i64 9, .string ⟨#[97, 98, 115]⟩, .int .i64 10, .string ⟨#[109, 105, 110]⟩, .int .i64 11, .string ⟨#[109, 97, 120]⟩, .int .i64 12]) (.int .i64 5)).run Try.prog w = .ok (.agg #[.string ⟨#[109, 97, 120]⟩, .int .i64 12]) w := by kernel_rfl
set_option maxHeartbeats 1000000 in
theorem iOwnWords (w : World) : Calls Try.prog 151 #[] w fun e w' => e = .returned (.agg #[.string ⟨#[100, 101, 102]⟩, .int .i64 0, .string ⟨#[118, 97, 114]⟩, .int .i64 0, .string ⟨#[115, 113, 114, 116]⟩, .int .i64 9, .string ⟨#[97, 98, 115]⟩, .int .i64 10, .string ⟨#[109, 105, 110]⟩, .int .i64 11, .string ⟨#[109, 97, 120]⟩, .int .i64 12]) ∧ Below w.heap.size w w' := by
  go_enter Try.func151, Try.ntmps151
  go_wp2
  refine bodyPost_ret (v := .agg #[.string ⟨#[100, 101, 102]⟩, .int .i64 0, .string ⟨#[118, 97, 114]⟩, .int .i64 0, .string ⟨#[115, 113, 114, 116]⟩, .int .i64 9, .string ⟨#[97, 98, 115]⟩, .int .i64 10, .string ⟨#[109, 105, 110]⟩, .int .i64 11, .string ⟨#[109, 97, 120]⟩, .int .i64 12]) ?_ rfl ⟨rfl, (by repeat (first | with_reducible exact Below.refl _ _ | with_reducible refine Below.drew ?_ | ((with_reducible refine Below.setCell ?_ ?_ _); rotate_left; (focus (first | (simp; done) | omega | (simp; omega)))) | with_reducible refine old_alloc ?_ _ | with_reducible refine old_trans ?_ (by with_reducible assumption)))⟩
  simp [results, Try.results151, go_sem]
theorem resOwn (W : World) (tmps : Array Value) (b : Nat) (x y u : Value) (h : CS W b [x, y]) (hp : tmps.getD 2 undef = .pointer (some ⟨b, 0, none⟩)) (hu : tmps.getD 3 undef = u) :
    (results Try.f137 tmps).run Try.prog W = .ok (.tuple #[.agg #[x, y], u]) W := by
  have c0 := h.cell 0 _ rfl
  have c1 := h.cell 1 _ rfl
  rw [results_cell_tmp (p := 2) (u := 3) (ty := 172) rfl, hp, hu]
  simp [asAddr, go_sem, c0, c1]
set_option maxHeartbeats 2000000 in
theorem iOwn_def (w : World) : Calls Try.prog 137 #[.string ⟨#[100, 101, 102]⟩] w fun e w' => e = .returned (.tuple #[.agg #[.string ⟨#[100, 101, 102]⟩, .int .i64 0], .bool true]) ∧ Below w.heap.size w w' := by
  have i0 := oidx0
  have i1 := oidx1
  have i2 := oidx2
  have i3 := oidx3
  have i4 := oidx4
  have i5 := oidx5
  go_enter Try.func137, Try.ntmps137
  go_wp2_with fail
  refine (iOwnWords _).mono ?_
  rintro e w1 ⟨rfl, hb1⟩
  have K := (CS.made w _ rfl #[.string ⟨#[]⟩, .int .i64 0] 172).later hb1
  have hB : Below w.heap.size w w1 := old_trans (old_alloc (Below.refl _ _) _) hb1
  clear hb1
  have k0 := K.cell 0 _ rfl
  have k1 := K.cell 1 _ rfl
  have z0 := K.froz 0 (by decide)
  have z1 := K.froz 1 (by decide)
  have hlt := K.lt
  have hne : w.heap.size ≠ w1.heap.size := by omega
  go_wp2
  refine wp_loop_rounds 1 ?_
  rw [rounds_succ]
  go_wp2
  have K2 : CS _ _ [_, _] := (K.stored (i := 0) (.string ⟨#[100, 101, 102]⟩) (by decide)).stored (i := 1) (.int .i64 0) (by decide)
  refine bodyPost_ret (v := .tuple #[.agg #[.string ⟨#[100, 101, 102]⟩, .int .i64 0], .bool true]) (resOwn _ _ _ _ _ _ (by first | with_reducible exact K2 | with_reducible exact (K2.alloc _) | with_reducible exact ((K2.alloc _).alloc _) | with_reducible exact (((K2.alloc _).alloc _).alloc _) | with_reducible exact ((((K2.alloc _).alloc _).alloc _).alloc _) | with_reducible exact (((((K2.alloc _).alloc _).alloc _).alloc _).alloc _) | with_reducible exact ((((((K2.alloc _).alloc _).alloc _).alloc _).alloc _).alloc _) | with_reducible exact (((((((K2.alloc _).alloc _).alloc _).alloc _).alloc _).alloc _).alloc _)) rfl rfl) rfl ⟨rfl, (by repeat (first | with_reducible exact hB | with_reducible exact Below.refl _ _ | with_reducible refine Below.drew ?_ | ((with_reducible refine Below.setCell ?_ ?_ _); rotate_left; (focus (first | (simp; done) | omega | (simp; omega)))) | with_reducible refine old_alloc ?_ _ | with_reducible refine old_trans ?_ (by with_reducible assumption)))⟩
set_option maxHeartbeats 2000000 in
theorem iOwn_var (w : World) : Calls Try.prog 137 #[.string ⟨#[118, 97, 114]⟩] w fun e w' => e = .returned (.tuple #[.agg #[.string ⟨#[118, 97, 114]⟩, .int .i64 0], .bool true]) ∧ Below w.heap.size w w' := by
  have i0 := oidx0
  have i1 := oidx1
  have i2 := oidx2
  have i3 := oidx3
  have i4 := oidx4
  have i5 := oidx5
  go_enter Try.func137, Try.ntmps137
  go_wp2_with fail
  refine (iOwnWords _).mono ?_
  rintro e w1 ⟨rfl, hb1⟩
  have K := (CS.made w _ rfl #[.string ⟨#[]⟩, .int .i64 0] 172).later hb1
  have hB : Below w.heap.size w w1 := old_trans (old_alloc (Below.refl _ _) _) hb1
  clear hb1
  have k0 := K.cell 0 _ rfl
  have k1 := K.cell 1 _ rfl
  have z0 := K.froz 0 (by decide)
  have z1 := K.froz 1 (by decide)
  have hlt := K.lt
  have hne : w.heap.size ≠ w1.heap.size := by omega
  go_wp2
  refine wp_loop_rounds 2 ?_
  rw [rounds_succ]
  go_wp2
  clear k0 k1 z0 z1 hlt hne
  have K' := K.alloc (.cells #[.string ⟨#[100, 101, 102]⟩, .int .i64 0] 172)
  have hB' := old_alloc hB (.cells #[.string ⟨#[100, 101, 102]⟩, .int .i64 0] 172)
  clear K hB
  generalize w1.alloc (.cells #[.string ⟨#[100, 101, 102]⟩, .int .i64 0] 172) = w2 at *
  have K := K'
  have hB := hB'
  clear K' hB'
  have k0 := K.cell 0 _ rfl
  have k1 := K.cell 1 _ rfl
  have z0 := K.froz 0 (by decide)
  have z1 := K.froz 1 (by decide)
  have hlt := K.lt
  have hne : w.heap.size ≠ w2.heap.size := by omega
  rw [rounds_succ]
  go_wp2
  have K2 : CS _ _ [_, _] := (K.stored (i := 0) (.string ⟨#[118, 97, 114]⟩) (by decide)).stored (i := 1) (.int .i64 0) (by decide)
  refine bodyPost_ret (v := .tuple #[.agg #[.string ⟨#[118, 97, 114]⟩, .int .i64 0], .bool true]) (resOwn _ _ _ _ _ _ (by first | with_reducible exact K2 | with_reducible exact (K2.alloc _) | with_reducible exact ((K2.alloc _).alloc _) | with_reducible exact (((K2.alloc _).alloc _).alloc _) | with_reducible exact ((((K2.alloc _).alloc _).alloc _).alloc _) | with_reducible exact (((((K2.alloc _).alloc _).alloc _).alloc _).alloc _) | with_reducible exact ((((((K2.alloc _).alloc _).alloc _).alloc _).alloc _).alloc _) | with_reducible exact (((((((K2.alloc _).alloc _).alloc _).alloc _).alloc _).alloc _).alloc _)) rfl rfl) rfl ⟨rfl, (by repeat (first | with_reducible exact hB | with_reducible exact Below.refl _ _ | with_reducible refine Below.drew ?_ | ((with_reducible refine Below.setCell ?_ ?_ _); rotate_left; (focus (first | (simp; done) | omega | (simp; omega)))) | with_reducible refine old_alloc ?_ _ | with_reducible refine old_trans ?_ (by with_reducible assumption)))⟩
set_option maxHeartbeats 2000000 in
theorem iOwn_sqrt (w : World) : Calls Try.prog 137 #[.string ⟨#[115, 113, 114, 116]⟩] w fun e w' => e = .returned (.tuple #[.agg #[.string ⟨#[115, 113, 114, 116]⟩, .int .i64 9], .bool true]) ∧ Below w.heap.size w w' := by
  have i0 := oidx0
  have i1 := oidx1
  have i2 := oidx2
  have i3 := oidx3
  have i4 := oidx4
  have i5 := oidx5
  go_enter Try.func137, Try.ntmps137
  go_wp2_with fail
  refine (iOwnWords _).mono ?_
  rintro e w1 ⟨rfl, hb1⟩
  have K := (CS.made w _ rfl #[.string ⟨#[]⟩, .int .i64 0] 172).later hb1
  have hB : Below w.heap.size w w1 := old_trans (old_alloc (Below.refl _ _) _) hb1
  clear hb1
  have k0 := K.cell 0 _ rfl
  have k1 := K.cell 1 _ rfl
  have z0 := K.froz 0 (by decide)
  have z1 := K.froz 1 (by decide)
  have hlt := K.lt
  have hne : w.heap.size ≠ w1.heap.size := by omega
  go_wp2
  refine wp_loop_rounds 3 ?_
  rw [rounds_succ]
  go_wp2
  clear k0 k1 z0 z1 hlt hne
  have K' := K.alloc (.cells #[.string ⟨#[100, 101, 102]⟩, .int .i64 0] 172)
  have hB' := old_alloc hB (.cells #[.string ⟨#[100, 101, 102]⟩, .int .i64 0] 172)
  clear K hB
  generalize w1.alloc (.cells #[.string ⟨#[100, 101, 102]⟩, .int .i64 0] 172) = w2 at *
  have K := K'
  have hB := hB'
  clear K' hB'
  have k0 := K.cell 0 _ rfl
  have k1 := K.cell 1 _ rfl
  have z0 := K.froz 0 (by decide)
  have z1 := K.froz 1 (by decide)
  have hlt := K.lt
  have hne : w.heap.size ≠ w2.heap.size := by omega
  rw [rounds_succ]
  go_wp2
  clear k0 k1 z0 z1 hlt hne
  have K' := K.alloc (.cells #[.string ⟨#[118, 97, 114]⟩, .int .i64 0] 172)
  have hB' := old_alloc hB (.cells #[.string ⟨#[118, 97, 114]⟩, .int .i64 0] 172)
  clear K hB
  generalize w2.alloc (.cells #[.string ⟨#[118, 97, 114]⟩, .int .i64 0] 172) = w3 at *
  have K := K'
  have hB := hB'
  clear K' hB'
  have k0 := K.cell 0 _ rfl
  have k1 := K.cell 1 _ rfl
  have z0 := K.froz 0 (by decide)
  have z1 := K.froz 1 (by decide)
  have hlt := K.lt
  have hne : w.heap.size ≠ w3.heap.size := by omega
  rw [rounds_succ]
  go_wp2
  have K2 : CS _ _ [_, _] := (K.stored (i := 0) (.string ⟨#[115, 113, 114, 116]⟩) (by decide)).stored (i := 1) (.int .i64 9) (by decide)
  refine bodyPost_ret (v := .tuple #[.agg #[.string ⟨#[115, 113, 114, 116]⟩, .int .i64 9], .bool true]) (resOwn _ _ _ _ _ _ (by first | with_reducible exact K2 | with_reducible exact (K2.alloc _) | with_reducible exact ((K2.alloc _).alloc _) | with_reducible exact (((K2.alloc _).alloc _).alloc _) | with_reducible exact ((((K2.alloc _).alloc _).alloc _).alloc _) | with_reducible exact (((((K2.alloc _).alloc _).alloc _).alloc _).alloc _) | with_reducible exact ((((((K2.alloc _).alloc _).alloc _).alloc _).alloc _).alloc _) | with_reducible exact (((((((K2.alloc _).alloc _).alloc _).alloc _).alloc _).alloc _).alloc _)) rfl rfl) rfl ⟨rfl, (by repeat (first | with_reducible exact hB | with_reducible exact Below.refl _ _ | with_reducible refine Below.drew ?_ | ((with_reducible refine Below.setCell ?_ ?_ _); rotate_left; (focus (first | (simp; done) | omega | (simp; omega)))) | with_reducible refine old_alloc ?_ _ | with_reducible refine old_trans ?_ (by with_reducible assumption)))⟩
set_option maxHeartbeats 2000000 in
theorem iOwn_abs (w : World) : Calls Try.prog 137 #[.string ⟨#[97, 98, 115]⟩] w fun e w' => e = .returned (.tuple #[.agg #[.string ⟨#[97, 98, 115]⟩, .int .i64 10], .bool true]) ∧ Below w.heap.size w w' := by
  have i0 := oidx0
  have i1 := oidx1
  have i2 := oidx2
  have i3 := oidx3
  have i4 := oidx4
  have i5 := oidx5
  go_enter Try.func137, Try.ntmps137
  go_wp2_with fail
  refine (iOwnWords _).mono ?_
  rintro e w1 ⟨rfl, hb1⟩
  have K := (CS.made w _ rfl #[.string ⟨#[]⟩, .int .i64 0] 172).later hb1
  have hB : Below w.heap.size w w1 := old_trans (old_alloc (Below.refl _ _) _) hb1
  clear hb1
  have k0 := K.cell 0 _ rfl
  have k1 := K.cell 1 _ rfl
  have z0 := K.froz 0 (by decide)
  have z1 := K.froz 1 (by decide)
  have hlt := K.lt
  have hne : w.heap.size ≠ w1.heap.size := by omega
  go_wp2
  refine wp_loop_rounds 4 ?_
  rw [rounds_succ]
  go_wp2
  clear k0 k1 z0 z1 hlt hne
  have K' := K.alloc (.cells #[.string ⟨#[100, 101, 102]⟩, .int .i64 0] 172)
  have hB' := old_alloc hB (.cells #[.string ⟨#[100, 101, 102]⟩, .int .i64 0] 172)
  clear K hB
  generalize w1.alloc (.cells #[.string ⟨#[100, 101, 102]⟩, .int .i64 0] 172) = w2 at *
  have K := K'
  have hB := hB'
  clear K' hB'
  have k0 := K.cell 0 _ rfl
  have k1 := K.cell 1 _ rfl
  have z0 := K.froz 0 (by decide)
  have z1 := K.froz 1 (by decide)
  have hlt := K.lt
  have hne : w.heap.size ≠ w2.heap.size := by omega
  rw [rounds_succ]
  go_wp2
  clear k0 k1 z0 z1 hlt hne
  have K' := K.alloc (.cells #[.string ⟨#[118, 97, 114]⟩, .int .i64 0] 172)
  have hB' := old_alloc hB (.cells #[.string ⟨#[118, 97, 114]⟩, .int .i64 0] 172)
  clear K hB
  generalize w2.alloc (.cells #[.string ⟨#[118, 97, 114]⟩, .int .i64 0] 172) = w3 at *
  have K := K'
  have hB := hB'
  clear K' hB'
  have k0 := K.cell 0 _ rfl
  have k1 := K.cell 1 _ rfl
  have z0 := K.froz 0 (by decide)
  have z1 := K.froz 1 (by decide)
  have hlt := K.lt
  have hne : w.heap.size ≠ w3.heap.size := by omega
  rw [rounds_succ]
  go_wp2
  clear k0 k1 z0 z1 hlt hne
  have K' := K.alloc (.cells #[.string ⟨#[115, 113, 114, 116]⟩, .int .i64 9] 172)
  have hB' := old_alloc hB (.cells #[.string ⟨#[115, 113, 114, 116]⟩, .int .i64 9] 172)
  clear K hB
  generalize w3.alloc (.cells #[.string ⟨#[115, 113, 114, 116]⟩, .int .i64 9] 172) = w4 at *
  have K := K'
  have hB := hB'
  clear K' hB'
  have k0 := K.cell 0 _ rfl
  have k1 := K.cell 1 _ rfl
  have z0 := K.froz 0 (by decide)
  have z1 := K.froz 1 (by decide)
  have hlt := K.lt
  have hne : w.heap.size ≠ w4.heap.size := by omega
  rw [rounds_succ]
  go_wp2
  have K2 : CS _ _ [_, _] := (K.stored (i := 0) (.string ⟨#[97, 98, 115]⟩) (by decide)).stored (i := 1) (.int .i64 10) (by decide)
  refine bodyPost_ret (v := .tuple #[.agg #[.string ⟨#[97, 98, 115]⟩, .int .i64 10], .bool true]) (resOwn _ _ _ _ _ _ (by first | with_reducible exact K2 | with_reducible exact (K2.alloc _) | with_reducible exact ((K2.alloc _).alloc _) | with_reducible exact (((K2.alloc _).alloc _).alloc _) | with_reducible exact ((((K2.alloc _).alloc _).alloc _).alloc _) | with_reducible exact (((((K2.alloc _).alloc _).alloc _).alloc _).alloc _) | with_reducible exact ((((((K2.alloc _).alloc _).alloc _).alloc _).alloc _).alloc _) | with_reducible exact (((((((K2.alloc _).alloc _).alloc _).alloc _).alloc _).alloc _).alloc _)) rfl rfl) rfl ⟨rfl, (by repeat (first | with_reducible exact hB | with_reducible exact Below.refl _ _ | with_reducible refine Below.drew ?_ | ((with_reducible refine Below.setCell ?_ ?_ _); rotate_left; (focus (first | (simp; done) | omega | (simp; omega)))) | with_reducible refine old_alloc ?_ _ | with_reducible refine old_trans ?_ (by with_reducible assumption)))⟩
set_option maxHeartbeats 2000000 in
theorem iOwn_min (w : World) : Calls Try.prog 137 #[.string ⟨#[109, 105, 110]⟩] w fun e w' => e = .returned (.tuple #[.agg #[.string ⟨#[109, 105, 110]⟩, .int .i64 11], .bool true]) ∧ Below w.heap.size w w' := by
  have i0 := oidx0
  have i1 := oidx1
  have i2 := oidx2
  have i3 := oidx3
  have i4 := oidx4
  have i5 := oidx5
  go_enter Try.func137, Try.ntmps137
  go_wp2_with fail
  refine (iOwnWords _).mono ?_
  rintro e w1 ⟨rfl, hb1⟩
  have K := (CS.made w _ rfl #[.string ⟨#[]⟩, .int .i64 0] 172).later hb1
  have hB : Below w.heap.size w w1 := old_trans (old_alloc (Below.refl _ _) _) hb1
  clear hb1
  have k0 := K.cell 0 _ rfl
  have k1 := K.cell 1 _ rfl
  have z0 := K.froz 0 (by decide)
  have z1 := K.froz 1 (by decide)
  have hlt := K.lt
  have hne : w.heap.size ≠ w1.heap.size := by omega
  go_wp2
  refine wp_loop_rounds 5 ?_
  rw [rounds_succ]
  go_wp2
  clear k0 k1 z0 z1 hlt hne
  have K' := K.alloc (.cells #[.string ⟨#[100, 101, 102]⟩, .int .i64 0] 172)
  have hB' := old_alloc hB (.cells #[.string ⟨#[100, 101, 102]⟩, .int .i64 0] 172)
  clear K hB
  generalize w1.alloc (.cells #[.string ⟨#[100, 101, 102]⟩, .int .i64 0] 172) = w2 at *
  have K := K'
  have hB := hB'
  clear K' hB'
  have k0 := K.cell 0 _ rfl
  have k1 := K.cell 1 _ rfl
  have z0 := K.froz 0 (by decide)
  have z1 := K.froz 1 (by decide)
  have hlt := K.lt
  have hne : w.heap.size ≠ w2.heap.size := by omega
  rw [rounds_succ]
  go_wp2
  clear k0 k1 z0 z1 hlt hne
  have K' := K.alloc (.cells #[.string ⟨#[118, 97, 114]⟩, .int .i64 0] 172)
  have hB' := old_alloc hB (.cells #[.string ⟨#[118, 97, 114]⟩, .int .i64 0] 172)
  clear K hB
  generalize w2.alloc (.cells #[.string ⟨#[118, 97, 114]⟩, .int .i64 0] 172) = w3 at *
  have K := K'
  have hB := hB'
  clear K' hB'
  have k0 := K.cell 0 _ rfl
  have k1 := K.cell 1 _ rfl
  have z0 := K.froz 0 (by decide)
  have z1 := K.froz 1 (by decide)
  have hlt := K.lt
  have hne : w.heap.size ≠ w3.heap.size := by omega
  rw [rounds_succ]
  go_wp2
  clear k0 k1 z0 z1 hlt hne
  have K' := K.alloc (.cells #[.string ⟨#[115, 113, 114, 116]⟩, .int .i64 9] 172)
  have hB' := old_alloc hB (.cells #[.string ⟨#[115, 113, 114, 116]⟩, .int .i64 9] 172)
  clear K hB
  generalize w3.alloc (.cells #[.string ⟨#[115, 113, 114, 116]⟩, .int .i64 9] 172) = w4 at *
  have K := K'
  have hB := hB'
  clear K' hB'
  have k0 := K.cell 0 _ rfl
  have k1 := K.cell 1 _ rfl
  have z0 := K.froz 0 (by decide)
  have z1 := K.froz 1 (by decide)
  have hlt := K.lt
  have hne : w.heap.size ≠ w4.heap.size := by omega
  rw [rounds_succ]
  go_wp2
  clear k0 k1 z0 z1 hlt hne
  have K' := K.alloc (.cells #[.string ⟨#[97, 98, 115]⟩, .int .i64 10] 172)
  have hB' := old_alloc hB (.cells #[.string ⟨#[97, 98, 115]⟩, .int .i64 10] 172)
  clear K hB
  generalize w4.alloc (.cells #[.string ⟨#[97, 98, 115]⟩, .int .i64 10] 172) = w5 at *
  have K := K'
  have hB := hB'
  clear K' hB'
  have k0 := K.cell 0 _ rfl
  have k1 := K.cell 1 _ rfl
  have z0 := K.froz 0 (by decide)
  have z1 := K.froz 1 (by decide)
  have hlt := K.lt
  have hne : w.heap.size ≠ w5.heap.size := by omega
  rw [rounds_succ]
  go_wp2
  have K2 : CS _ _ [_, _] := (K.stored (i := 0) (.string ⟨#[109, 105, 110]⟩) (by decide)).stored (i := 1) (.int .i64 11) (by decide)
  refine bodyPost_ret (v := .tuple #[.agg #[.string ⟨#[109, 105, 110]⟩, .int .i64 11], .bool true]) (resOwn _ _ _ _ _ _ (by first | with_reducible exact K2 | with_reducible exact (K2.alloc _) | with_reducible exact ((K2.alloc _).alloc _) | with_reducible exact (((K2.alloc _).alloc _).alloc _) | with_reducible exact ((((K2.alloc _).alloc _).alloc _).alloc _) | with_reducible exact (((((K2.alloc _).alloc _).alloc _).alloc _).alloc _) | with_reducible exact ((((((K2.alloc _).alloc _).alloc _).alloc _).alloc _).alloc _) | with_reducible exact (((((((K2.alloc _).alloc _).alloc _).alloc _).alloc _).alloc _).alloc _)) rfl rfl) rfl ⟨rfl, (by repeat (first | with_reducible exact hB | with_reducible exact Below.refl _ _ | with_reducible refine Below.drew ?_ | ((with_reducible refine Below.setCell ?_ ?_ _); rotate_left; (focus (first | (simp; done) | omega | (simp; omega)))) | with_reducible refine old_alloc ?_ _ | with_reducible refine old_trans ?_ (by with_reducible assumption)))⟩
set_option maxHeartbeats 2000000 in
theorem iOwn_max (w : World) : Calls Try.prog 137 #[.string ⟨#[109, 97, 120]⟩] w fun e w' => e = .returned (.tuple #[.agg #[.string ⟨#[109, 97, 120]⟩, .int .i64 12], .bool true]) ∧ Below w.heap.size w w' := by
  have i0 := oidx0
  have i1 := oidx1
  have i2 := oidx2
  have i3 := oidx3
  have i4 := oidx4
  have i5 := oidx5
  go_enter Try.func137, Try.ntmps137
  go_wp2_with fail
  refine (iOwnWords _).mono ?_
  rintro e w1 ⟨rfl, hb1⟩
  have K := (CS.made w _ rfl #[.string ⟨#[]⟩, .int .i64 0] 172).later hb1
  have hB : Below w.heap.size w w1 := old_trans (old_alloc (Below.refl _ _) _) hb1
  clear hb1
  have k0 := K.cell 0 _ rfl
  have k1 := K.cell 1 _ rfl
  have z0 := K.froz 0 (by decide)
  have z1 := K.froz 1 (by decide)
  have hlt := K.lt
  have hne : w.heap.size ≠ w1.heap.size := by omega
  go_wp2
  refine wp_loop_rounds 6 ?_
  rw [rounds_succ]
  go_wp2
  clear k0 k1 z0 z1 hlt hne
  have K' := K.alloc (.cells #[.string ⟨#[100, 101, 102]⟩, .int .i64 0] 172)
  have hB' := old_alloc hB (.cells #[.string ⟨#[100, 101, 102]⟩, .int .i64 0] 172)
  clear K hB
  generalize w1.alloc (.cells #[.string ⟨#[100, 101, 102]⟩, .int .i64 0] 172) = w2 at *
  have K := K'
  have hB := hB'
  clear K' hB'
  have k0 := K.cell 0 _ rfl
  have k1 := K.cell 1 _ rfl
  have z0 := K.froz 0 (by decide)
  have z1 := K.froz 1 (by decide)
  have hlt := K.lt
  have hne : w.heap.size ≠ w2.heap.size := by omega
  rw [rounds_succ]
  go_wp2
  clear k0 k1 z0 z1 hlt hne
  have K' := K.alloc (.cells #[.string ⟨#[118, 97, 114]⟩, .int .i64 0] 172)
  have hB' := old_alloc hB (.cells #[.string ⟨#[118, 97, 114]⟩, .int .i64 0] 172)
  clear K hB
  generalize w2.alloc (.cells #[.string ⟨#[118, 97, 114]⟩, .int .i64 0] 172) = w3 at *
  have K := K'
  have hB := hB'
  clear K' hB'
  have k0 := K.cell 0 _ rfl
  have k1 := K.cell 1 _ rfl
  have z0 := K.froz 0 (by decide)
  have z1 := K.froz 1 (by decide)
  have hlt := K.lt
  have hne : w.heap.size ≠ w3.heap.size := by omega
  rw [rounds_succ]
  go_wp2
  clear k0 k1 z0 z1 hlt hne
  have K' := K.alloc (.cells #[.string ⟨#[115, 113, 114, 116]⟩, .int .i64 9] 172)
  have hB' := old_alloc hB (.cells #[.string ⟨#[115, 113, 114, 116]⟩, .int .i64 9] 172)
  clear K hB
  generalize w3.alloc (.cells #[.string ⟨#[115, 113, 114, 116]⟩, .int .i64 9] 172) = w4 at *
  have K := K'
  have hB := hB'
  clear K' hB'
  have k0 := K.cell 0 _ rfl
  have k1 := K.cell 1 _ rfl
  have z0 := K.froz 0 (by decide)
  have z1 := K.froz 1 (by decide)
  have hlt := K.lt
  have hne : w.heap.size ≠ w4.heap.size := by omega
  rw [rounds_succ]
  go_wp2
  clear k0 k1 z0 z1 hlt hne
  have K' := K.alloc (.cells #[.string ⟨#[97, 98, 115]⟩, .int .i64 10] 172)
  have hB' := old_alloc hB (.cells #[.string ⟨#[97, 98, 115]⟩, .int .i64 10] 172)
  clear K hB
  generalize w4.alloc (.cells #[.string ⟨#[97, 98, 115]⟩, .int .i64 10] 172) = w5 at *
  have K := K'
  have hB := hB'
  clear K' hB'
  have k0 := K.cell 0 _ rfl
  have k1 := K.cell 1 _ rfl
  have z0 := K.froz 0 (by decide)
  have z1 := K.froz 1 (by decide)
  have hlt := K.lt
  have hne : w.heap.size ≠ w5.heap.size := by omega
  rw [rounds_succ]
  go_wp2
  clear k0 k1 z0 z1 hlt hne
  have K' := K.alloc (.cells #[.string ⟨#[109, 105, 110]⟩, .int .i64 11] 172)
  have hB' := old_alloc hB (.cells #[.string ⟨#[109, 105, 110]⟩, .int .i64 11] 172)
  clear K hB
  generalize w5.alloc (.cells #[.string ⟨#[109, 105, 110]⟩, .int .i64 11] 172) = w6 at *
  have K := K'
  have hB := hB'
  clear K' hB'
  have k0 := K.cell 0 _ rfl
  have k1 := K.cell 1 _ rfl
  have z0 := K.froz 0 (by decide)
  have z1 := K.froz 1 (by decide)
  have hlt := K.lt
  have hne : w.heap.size ≠ w6.heap.size := by omega
  rw [rounds_succ]
  go_wp2
  have K2 : CS _ _ [_, _] := (K.stored (i := 0) (.string ⟨#[109, 97, 120]⟩) (by decide)).stored (i := 1) (.int .i64 12) (by decide)
  refine bodyPost_ret (v := .tuple #[.agg #[.string ⟨#[109, 97, 120]⟩, .int .i64 12], .bool true]) (resOwn _ _ _ _ _ _ (by first | with_reducible exact K2 | with_reducible exact (K2.alloc _) | with_reducible exact ((K2.alloc _).alloc _) | with_reducible exact (((K2.alloc _).alloc _).alloc _) | with_reducible exact ((((K2.alloc _).alloc _).alloc _).alloc _) | with_reducible exact (((((K2.alloc _).alloc _).alloc _).alloc _).alloc _) | with_reducible exact ((((((K2.alloc _).alloc _).alloc _).alloc _).alloc _).alloc _) | with_reducible exact (((((((K2.alloc _).alloc _).alloc _).alloc _).alloc _).alloc _).alloc _)) rfl rfl) rfl ⟨rfl, (by repeat (first | with_reducible exact hB | with_reducible exact Below.refl _ _ | with_reducible refine Below.drew ?_ | ((with_reducible refine Below.setCell ?_ ?_ _); rotate_left; (focus (first | (simp; done) | omega | (simp; omega)))) | with_reducible refine old_alloc ?_ _ | with_reducible refine old_trans ?_ (by with_reducible assumption)))⟩
set_option maxHeartbeats 2000000 in
theorem iOwn_no {s : ByteArray} (n0 : ¬ s.toList = [100, 101, 102]) (n1 : ¬ s.toList = [118, 97, 114]) (n2 : ¬ s.toList = [115, 113, 114, 116]) (n3 : ¬ s.toList = [97, 98, 115]) (n4 : ¬ s.toList = [109, 105, 110]) (n5 : ¬ s.toList = [109, 97, 120]) (w : World) : Calls Try.prog 137 #[.string s] w fun e w' => e = .returned (.tuple #[.agg #[.string ⟨#[]⟩, .int .i64 0], .bool false]) ∧ Below w.heap.size w w' := by
  have m0 := neR n0
  clear n0
  have m1 := neR n1
  clear n1
  have m2 := neR n2
  clear n2
  have m3 := neR n3
  clear n3
  have m4 := neR n4
  clear n4
  have m5 := neR n5
  clear n5
  have i0 := oidx0
  have i1 := oidx1
  have i2 := oidx2
  have i3 := oidx3
  have i4 := oidx4
  have i5 := oidx5
  go_enter Try.func137, Try.ntmps137
  go_wp2_with fail
  refine (iOwnWords _).mono ?_
  rintro e w1 ⟨rfl, hb1⟩
  have K := (CS.made w _ rfl #[.string ⟨#[]⟩, .int .i64 0] 172).later hb1
  have hB : Below w.heap.size w w1 := old_trans (old_alloc (Below.refl _ _) _) hb1
  clear hb1
  have k0 := K.cell 0 _ rfl
  have k1 := K.cell 1 _ rfl
  have z0 := K.froz 0 (by decide)
  have z1 := K.froz 1 (by decide)
  have hlt := K.lt
  have hne : w.heap.size ≠ w1.heap.size := by omega
  go_wp2
  refine wp_loop_rounds 7 ?_
  rw [rounds_succ]
  go_wp2
  clear k0 k1 z0 z1 hlt hne
  have K' := K.alloc (.cells #[.string ⟨#[100, 101, 102]⟩, .int .i64 0] 172)
  have hB' := old_alloc hB (.cells #[.string ⟨#[100, 101, 102]⟩, .int .i64 0] 172)
  clear K hB
  generalize w1.alloc (.cells #[.string ⟨#[100, 101, 102]⟩, .int .i64 0] 172) = w2 at *
  have K := K'
  have hB := hB'
  clear K' hB'
  have k0 := K.cell 0 _ rfl
  have k1 := K.cell 1 _ rfl
  have z0 := K.froz 0 (by decide)
  have z1 := K.froz 1 (by decide)
  have hlt := K.lt
  have hne : w.heap.size ≠ w2.heap.size := by omega
  rw [rounds_succ]
  go_wp2
  clear k0 k1 z0 z1 hlt hne
  have K' := K.alloc (.cells #[.string ⟨#[118, 97, 114]⟩, .int .i64 0] 172)
  have hB' := old_alloc hB (.cells #[.string ⟨#[118, 97, 114]⟩, .int .i64 0] 172)
  clear K hB
  generalize w2.alloc (.cells #[.string ⟨#[118, 97, 114]⟩, .int .i64 0] 172) = w3 at *
  have K := K'
  have hB := hB'
  clear K' hB'
  have k0 := K.cell 0 _ rfl
  have k1 := K.cell 1 _ rfl
  have z0 := K.froz 0 (by decide)
  have z1 := K.froz 1 (by decide)
  have hlt := K.lt
  have hne : w.heap.size ≠ w3.heap.size := by omega
  rw [rounds_succ]
  go_wp2
  clear k0 k1 z0 z1 hlt hne
  have K' := K.alloc (.cells #[.string ⟨#[115, 113, 114, 116]⟩, .int .i64 9] 172)
  have hB' := old_alloc hB (.cells #[.string ⟨#[115, 113, 114, 116]⟩, .int .i64 9] 172)
  clear K hB
  generalize w3.alloc (.cells #[.string ⟨#[115, 113, 114, 116]⟩, .int .i64 9] 172) = w4 at *
  have K := K'
  have hB := hB'
  clear K' hB'
  have k0 := K.cell 0 _ rfl
  have k1 := K.cell 1 _ rfl
  have z0 := K.froz 0 (by decide)
  have z1 := K.froz 1 (by decide)
  have hlt := K.lt
  have hne : w.heap.size ≠ w4.heap.size := by omega
  rw [rounds_succ]
  go_wp2
  clear k0 k1 z0 z1 hlt hne
  have K' := K.alloc (.cells #[.string ⟨#[97, 98, 115]⟩, .int .i64 10] 172)
  have hB' := old_alloc hB (.cells #[.string ⟨#[97, 98, 115]⟩, .int .i64 10] 172)
  clear K hB
  generalize w4.alloc (.cells #[.string ⟨#[97, 98, 115]⟩, .int .i64 10] 172) = w5 at *
  have K := K'
  have hB := hB'
  clear K' hB'
  have k0 := K.cell 0 _ rfl
  have k1 := K.cell 1 _ rfl
  have z0 := K.froz 0 (by decide)
  have z1 := K.froz 1 (by decide)
  have hlt := K.lt
  have hne : w.heap.size ≠ w5.heap.size := by omega
  rw [rounds_succ]
  go_wp2
  clear k0 k1 z0 z1 hlt hne
  have K' := K.alloc (.cells #[.string ⟨#[109, 105, 110]⟩, .int .i64 11] 172)
  have hB' := old_alloc hB (.cells #[.string ⟨#[109, 105, 110]⟩, .int .i64 11] 172)
  clear K hB
  generalize w5.alloc (.cells #[.string ⟨#[109, 105, 110]⟩, .int .i64 11] 172) = w6 at *
  have K := K'
  have hB := hB'
  clear K' hB'
  have k0 := K.cell 0 _ rfl
  have k1 := K.cell 1 _ rfl
  have z0 := K.froz 0 (by decide)
  have z1 := K.froz 1 (by decide)
  have hlt := K.lt
  have hne : w.heap.size ≠ w6.heap.size := by omega
  rw [rounds_succ]
  go_wp2
  clear k0 k1 z0 z1 hlt hne
  have K' := K.alloc (.cells #[.string ⟨#[109, 97, 120]⟩, .int .i64 12] 172)
  have hB' := old_alloc hB (.cells #[.string ⟨#[109, 97, 120]⟩, .int .i64 12] 172)
  clear K hB
  generalize w6.alloc (.cells #[.string ⟨#[109, 97, 120]⟩, .int .i64 12] 172) = w7 at *
  have K := K'
  have hB := hB'
  clear K' hB'
  have k0 := K.cell 0 _ rfl
  have k1 := K.cell 1 _ rfl
  have z0 := K.froz 0 (by decide)
  have z1 := K.froz 1 (by decide)
  have hlt := K.lt
  have hne : w.heap.size ≠ w7.heap.size := by omega
  rw [rounds_succ]
  go_wp2
  have K2 : CS _ _ [_, _] := (K.stored (i := 0) (.string ⟨#[]⟩) (by decide)).stored (i := 1) (.int .i64 0) (by decide)
  refine bodyPost_ret (v := .tuple #[.agg #[.string ⟨#[]⟩, .int .i64 0], .bool false]) (resOwn _ _ _ _ _ _ (by first | with_reducible exact K2 | with_reducible exact (K2.alloc _) | with_reducible exact ((K2.alloc _).alloc _) | with_reducible exact (((K2.alloc _).alloc _).alloc _) | with_reducible exact ((((K2.alloc _).alloc _).alloc _).alloc _) | with_reducible exact (((((K2.alloc _).alloc _).alloc _).alloc _).alloc _) | with_reducible exact ((((((K2.alloc _).alloc _).alloc _).alloc _).alloc _).alloc _) | with_reducible exact (((((((K2.alloc _).alloc _).alloc _).alloc _).alloc _).alloc _).alloc _)) rfl rfl) rfl ⟨rfl, (by repeat (first | with_reducible exact hB | with_reducible exact Below.refl _ _ | with_reducible refine Below.drew ?_ | ((with_reducible refine Below.setCell ?_ ?_ _); rotate_left; (focus (first | (simp; done) | omega | (simp; omega)))) | with_reducible refine old_alloc ?_ _ | with_reducible refine old_trans ?_ (by with_reducible assumption)))⟩
def ownV (s : ByteArray) : Value := match ownKind s with | some k => .tuple #[.agg #[.string s, .int .i64 k], .bool true] | none => .tuple #[.agg #[.string ⟨#[]⟩, .int .i64 0], .bool false]
theorem iOwn (s : ByteArray) (w : World) : Calls Try.prog 137 #[.string s] w fun e w' => e = .returned (ownV s) ∧ Below w.heap.size w w' := by
  unfold ownV
  rcases own_cases s with rfl | rfl | rfl | rfl | rfl | rfl | ⟨n0, n1, n2, n3, n4, n5⟩
  · rw [own_def]; exact iOwn_def w
  · rw [own_var]; exact iOwn_var w
  · rw [own_sqrt]; exact iOwn_sqrt w
  · rw [own_abs]; exact iOwn_abs w
  · rw [own_min]; exact iOwn_min w
  · rw [own_max]; exact iOwn_max w
  · rw [own_no n0 n1 n2 n3 n4 n5]; exact iOwn_no n0 n1 n2 n3 n4 n5 w
end Go.Proofs.Ytmpckbgelkfgpaa
