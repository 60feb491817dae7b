/- Stores into a new variable leave the boxes and rows that lay ahead. No condition. -/
import Derived.Test.YtmllcpcbaojipaaDoorPK18
import Derived.Test.YtmllcpcbaojipaaDoorPK17
import Derived.Laws.CopyRow
import Derived.Deep.WholeRow
import Derived.Deep.AppendLies
import Derived.Deep.RegionHeld3
import Derived.Deep.RegionLaw
import Derived.Test.YtmllcpcbaojipaaDoorPK06
namespace Go.Proofs.YtmllcpcbaojipaaDoor
open Go.RowKit
set_option linter.unusedVariables false
set_option maxRecDepth 100000

theorem OB.mono {w : World} {b b' cv : Nat} {av : Option Addr} {ps : List (Int × Int)} (h : OB w b av cv ps) (hb : b' ≤ b) : OB w b' av cv ps := by
  obtain ⟨h1, h2, h3, h4 | ⟨g, h4, h5, h6⟩⟩ := h
  · exact ⟨h1, h2, h3, .inl h4⟩
  · exact ⟨h1, h2, h3, .inr ⟨g, h4, Nat.le_trans hb h5, h6⟩⟩
theorem OB.set {w : World} {base cv : Nat} {av : Option Addr} {ps : List (Int × Int)} (h : OB w base av cv ps) (b : Nat) (hne : ∀ q, av = some q → q.block ≠ b) (v : Value) : OB (w.setCell ⟨b, 0, none⟩ v) base av cv ps := by
  obtain ⟨h1, h2, h3, h4 | ⟨g, h4, h5, h6⟩⟩ := h
  · exact ⟨h1, h2, h3, .inl h4⟩
  · exact ⟨h1, h2, h3, .inr ⟨g, h4, h5, h6.other ⟨b, 0, none⟩ (hne _ h4) v⟩⟩
end Go.Proofs.YtmllcpcbaojipaaDoor

/- A new box with another pair at one coordinate: by the program (make, copy, store) and by the specification (append). Conditions: 2^20 pairs at most. -/
namespace Go.Proofs.YtmllcpcbaojipaaDoor
open Go.RowKit
set_option linter.unusedVariables false
set_option maxRecDepth 100000

theorem InRow.src {w : World} {b off len cap : Nat} {ps : List (Int × Int)} (h : InRow w (some ⟨b, off, none⟩) len cap ps) (h0 : 0 < len) : ∀ j v, (flat ps)[j]? = some v → w.cell? ((⟨b, off, none⟩ : Addr).add j) = some v := by
  intro j v hj
  have hl := h.1
  have hlt : j < ps.length * 2 := by
    have := (List.getElem?_eq_some_iff.1 hj).1
    rw [flat_length] at this; exact this
  have ad : (⟨b, off, none⟩ : Addr).add j = ⟨b, off + j, none⟩ := by
    by_cases h : j = 0
    · subst h; simp [Addr.add]
    · simp [Addr.add, h]
  rw [ad]
  rcases h.2.2.2.2 with h5 | ⟨b', off', e, -, hc⟩
  · omega
  obtain ⟨rfl, rfl⟩ : b = b' ∧ off = off' := by injection e with e; injection e with h1 h2; exact ⟨h1, h2⟩
  have hc2 := hc (j / 2) (by omega)
  have f := flat_get ps (j / 2) (by omega)
  by_cases hp : j % 2 = 0
  · have ej : j / 2 * 2 = j := by omega
    rw [ej] at hc2 f
    rw [hc2.1, ← f.1, hj]
  · have ej : j / 2 * 2 + 1 = j := by omega
    rw [ej] at hc2 f
    rw [hc2.2, ← f.2, hj]
theorem Row.flat (w : World) (ps : List (Int × Int)) (t : TypeId) : Row (w.alloc (.cells (flat ps).toArray t)) w.heap.size ps := by
  refine ⟨by simp, fun i hi => ?_⟩
  have f := flat_get ps i hi
  exact ⟨⟨by simp [f.1], by simp [f.2]⟩, by simp, by simp⟩

end Go.Proofs.YtmllcpcbaojipaaDoor

/- A new box with another pair at one coordinate, by the specification's loop over append. Conditions: 2^20 pairs at most. -/
namespace Go.Proofs.YtmllcpcbaojipaaDoor
open Go.RowKit
set_option linter.unusedVariables false
set_option maxRecDepth 100000

theorem Cel2.kept {w w' : World} {c : Nat} {x y : Value} {row : Option Nat} (h : Cel2 w c x y) (g : w.grownBy w' row) (hne : some c ≠ row) : Cel2 w' c x y := by
  obtain ⟨h1, h2, h3, h4, h5⟩ := h
  have e := g.block c h5 hne
  exact ⟨(World.cell?_of_block (a := ⟨c, 0, none⟩) e).trans h1, (World.cell?_of_block (a := ⟨c, 1, none⟩) e).trans h2, (World.frozen?_of_block (a := ⟨c, 0, none⟩) e).trans h3, (World.frozen?_of_block (a := ⟨c, 1, none⟩) e).trans h4, Nat.lt_of_lt_of_le h5 g.size⟩
end Go.Proofs.YtmllcpcbaojipaaDoor

/- Lists of numbers without sign: in memory of their own, held against each other, marked. No condition. -/
namespace Go.Proofs.YtmllcpcbaojipaaDoor
open Go.RowKit
set_option linter.unusedVariables false
set_option maxRecDepth 100000

/-- numbers in a block of their own -/
def URow (w : World) (b : Nat) (xs : List Int) : Prop :=
  b < w.heap.size ∧ ∀ i, i < xs.length → w.cell? ⟨b, i, none⟩ = some (.int .u64 (xs.getD i 0)) ∧ w.frozen? ⟨b, i, none⟩ = false
def UFits (xs : List Int) : Prop := ∀ x ∈ xs, 0 ≤ x ∧ x ≤ 18446744073709551615
/-- numbers that lie somewhere -/
def InU (w : World) (a : Option Addr) (len cap : Nat) (xs : List Int) : Prop :=
  xs.length = len ∧ len ≤ cap ∧ cap ≤ maxLen ∧ UFits xs ∧
  (len = 0 ∨ ∃ b off : Nat, a = some ⟨b, off, none⟩ ∧ b < w.heap.size ∧ ∀ i, i < len → w.cell? ⟨b, off + i, none⟩ = some (.int .u64 (xs.getD i 0)))
theorem InU.old {w w' : World} {a : Option Addr} {len cap : Nat} {xs : List Int} (h : InU w a len cap xs) (b : Below w.heap.size w w') : InU w' a len cap xs := by
  obtain ⟨h1, h2, h3, h4, h5⟩ := h
  refine ⟨h1, h2, h3, h4, ?_⟩
  rcases h5 with h5 | ⟨bb, off, q1, q2, q3⟩
  · exact .inl h5
  · exact .inr ⟨bb, off, q1, Nat.lt_of_lt_of_le q2 b.size, fun i hi => (b.cell (p := ⟨bb, off + i, none⟩) q2).trans (q3 i hi)⟩
theorem InU.alloc {w : World} {a : Option Addr} {len cap : Nat} {xs : List Int} (h : InU w a len cap xs) (o : Obj) : InU (w.alloc o) a len cap xs := h.old ((Below.refl _ _).alloc (Nat.le_refl _) o)
theorem InU.drew {w : World} {a : Option Addr} {len cap : Nat} {xs : List Int} (h : InU w a len cap xs) : InU w.drew a len cap xs := h
theorem InU.at {w : World} {a : Option Addr} {len cap : Nat} {xs : List Int} (h : InU w a len cap xs) {k : Nat} (hk : k < len) : ∃ (b off : Nat) (x : Int), a = some ⟨b, off, none⟩ ∧ b < w.heap.size ∧ xs.getD k 0 = x ∧ (0 ≤ x ∧ x ≤ 18446744073709551615) ∧ w.cell? ⟨b, off + k, none⟩ = some (.int .u64 x) := by
  rcases h.2.2.2.2 with h0 | ⟨b, off, e, hb, hc⟩
  · omega
  · exact ⟨b, off, _, e, hb, rfl, h.2.2.2.1 _ (getD_mem (by rw [h.1]; exact hk)), hc k hk⟩
theorem InU.kept {w w' : World} {a : Option Addr} {len cap : Nat} {xs : List Int} {row : Option Nat} (h : InU w a len cap xs) (g : w.grownBy w' row) (hne : 0 < len → ∀ q, a = some q → some q.block ≠ row) : InU w' a len cap xs := by
  obtain ⟨h1, h2, h3, h4, h5⟩ := h
  refine ⟨h1, h2, h3, h4, ?_⟩
  by_cases h0 : len = 0
  · exact .inl h0
  rcases h5 with h5 | ⟨b, off, q1, q2, q3⟩
  · exact .inl h5
  · refine .inr ⟨b, off, q1, Nat.lt_of_lt_of_le q2 g.size, fun i hi => ?_⟩
    have e := g.block b q2 (hne (by omega) _ q1)
    exact (World.cell?_of_block (a := ⟨b, off + i, none⟩) e).trans (q3 i hi)
theorem InU.far {w : World} {a : Option Addr} {len cap : Nat} {xs : List Int} (h : InU w a len cap xs) : 0 < len → ∀ q, a = some q → q.block < w.heap.size := by
  intro h0 q e
  rcases h.2.2.2.2 with h5 | ⟨b, off, q1, q2, -⟩
  · omega
  · rw [q1] at e; cases e; exact q2
theorem InU.len {w : World} {a : Option Addr} {len cap : Nat} {xs : List Int} (h : InU w a len cap xs) : len ≤ 9223372036854775807 := by
  have := Nat.le_trans h.2.1 h.2.2.1
  unfold maxLen at this
  omega
theorem URow.old {w w' : World} {b : Nat} {xs : List Int} (h : URow w b xs) (k : Below w.heap.size w w') : URow w' b xs :=
  ⟨Nat.lt_of_lt_of_le h.1 k.size, fun i hi => ⟨(k.cell (p := ⟨b, i, none⟩) h.1).trans (h.2 i hi).1, (k.frozen (p := ⟨b, i, none⟩) h.1).trans (h.2 i hi).2⟩⟩
theorem URow.inU {w : World} {b cap : Nat} {xs : List Int} (h : URow w b xs) (f : UFits xs) (h1 : xs.length ≤ cap) (h2 : cap ≤ maxLen) : InU w (some ⟨b, 0, none⟩) xs.length cap xs :=
  ⟨rfl, h1, h2, f, .inr ⟨b, 0, rfl, h.1, fun i hi => by rw [Nat.zero_add]; exact (h.2 i hi).1⟩⟩
theorem URow.at {w : World} {b : Nat} {xs : List Int} (h : URow w b xs) {k : Nat} (hk : k < xs.length) : ∃ x : Int, xs.getD k 0 = x ∧ w.cell? ⟨b, k, none⟩ = some (.int .u64 x) ∧ w.frozen? ⟨b, k, none⟩ = false := ⟨_, rfl, (h.2 k hk).1, (h.2 k hk).2⟩
theorem URow.set {w : World} {b : Nat} {xs : List Int} (h : URow w b xs) (k : Nat) (hk : k < xs.length) (x : Int) : URow (w.setCell ⟨b, k, none⟩ (.int .u64 x)) b (xs.set k x) := by
  refine ⟨by simpa [World.setCell] using h.1, fun i hi => ?_⟩
  rw [List.length_set] at hi
  obtain ⟨h1, h3⟩ := h.2 i hi
  by_cases e : i = k
  · subst e
    have eg : (xs.set i x).getD i 0 = x := by simp [List.getD_eq_getElem?_getD, hk]
    rw [eg]
    exact ⟨World.cell?_setCell_same _ _ _ h1, by simpa using h3⟩
  · have eg : (xs.set k x).getD i 0 = xs.getD i 0 := by simp [List.getD_eq_getElem?_getD, Ne.symm e]
    rw [eg]
    refine ⟨?_, by simpa using h3⟩
    rw [World.cell?_setCell_other _ _ _ _ (by intro h; injection h with _ h2; omega)]; exact h1
theorem URow.kept {w w' : World} {c : Nat} {xs : List Int} {row : Option Nat} (h : URow w c xs) (g : w.grownBy w' row) (hne : some c ≠ row) : URow w' c xs := by
  refine ⟨Nat.lt_of_lt_of_le h.1 g.size, fun i hi => ?_⟩
  have e := g.block c h.1 hne
  exact ⟨(World.cell?_of_block (a := ⟨c, i, none⟩) e).trans (h.2 i hi).1, (World.frozen?_of_block (a := ⟨c, i, none⟩) e).trans (h.2 i hi).2⟩
def uints (xs : List Int) : List Value := xs.map (fun x => .int .u64 x)
theorem uints_snoc (xs : List Int) (x : Int) : uints (xs ++ [x]) = uints xs ++ [.int .u64 x] := by simp [uints]
theorem uints_get {xs : List Int} {i : Nat} (h : i < xs.length) : (uints xs)[i]? = some (.int .u64 (xs.getD i 0)) := by
  simp [uints, List.getD_eq_getElem?_getD, h]
/-- a list that is being made -/
def UGrows (w : World) (base : Nat) (v : Value) (xs : List Int) : Prop := w.ownsRow base 38 1 v xs.length (uints xs)
theorem UGrows.nil (w : World) (base : Nat) : UGrows w base (.slice none 0 0) [] := World.ownsRow_nil w base _ _
theorem UGrows.kept {w w' : World} {base : Nat} {v : Value} {xs : List Int} {row : Option Nat} (h : UGrows w base v xs) (g : w.grownBy w' row) (hne : ∀ b, row = some b → b < base) : UGrows w' base v xs := by
  refine World.ownsRow.kept h g ?_
  cases hv : v.ownBlock with
  | none => exact .inl rfl
  | some k =>
    refine .inr (fun e => ?_)
    have := hne k e.symm
    have := (World.ownsRow.lt h k hv).1
    omega
theorem UGrows.later {w w' : World} {base : Nat} {v : Value} {xs : List Int} (h : UGrows w base v xs) (g : Below w.heap.size w w') : UGrows w' base v xs := h.kept (grown_below g) (by simp)
theorem UGrows.alloc {w : World} {base : Nat} {v : Value} {xs : List Int} (h : UGrows w base v xs) (o : Obj) : UGrows (w.alloc o) base v xs := h.later ((Below.refl _ _).alloc (Nat.le_refl _) o)
theorem UGrows.far {w : World} {base : Nat} {v : Value} {xs : List Int} (h : UGrows w base v xs) {c : Nat} (hc : c < base) : some c ≠ v.ownBlock := fun e => by have := (World.ownsRow.lt h c e.symm).1; omega
theorem UGrows.row {w : World} {base : Nat} {v : Value} {xs : List Int} (h : UGrows w base v xs) (hp : 0 < xs.length) : ∃ g cap, v = .slice (some ⟨g, 0, none⟩) xs.length cap ∧ base ≤ g ∧ xs.length ≤ cap ∧ cap ≤ maxLen ∧ URow w g xs := by
  have h' := h
  rcases h.2 with ⟨_, h0⟩ | ⟨g, cap, cur, rfl, hb, hg, h1, h2, -, -⟩
  · omega
  refine ⟨g, cap, rfl, hb, h1, h2, (Array.getElem?_eq_some_iff.1 hg).1, fun i hi => ?_⟩
  exact ⟨(World.ownsRow.cellAt h' i (by omega)).trans (uints_get hi), World.ownsRow.frozenAt h' _⟩
theorem UGrows.none {w : World} {base : Nat} {v : Value} (h : UGrows w base v []) : ∃ av cv, v = .slice av 0 cv := by
  rcases h.2 with ⟨h0, _⟩ | ⟨g, cap, cur, rfl, hb, hg, h1, h2, -, -⟩
  · exact ⟨_, _, h0⟩
  · exact ⟨_, _, rfl⟩
/-- numbers in memory of their own, at or beyond base; or none -/
def OU (w : World) (base : Nat) (av : Option Addr) (cv : Nat) (xs : List Int) : Prop :=
  UFits xs ∧ xs.length ≤ cv ∧ cv ≤ maxLen ∧ ((av = none ∧ xs = []) ∨ ∃ g, av = some ⟨g, 0, none⟩ ∧ base ≤ g ∧ URow w g xs)
theorem ufits_nil : UFits [] := fun p hp => absurd hp (by simp)
theorem OU.none (w : World) (base : Nat) : OU w base none 0 [] := ⟨ufits_nil, Nat.le_refl _, Nat.zero_le _, .inl ⟨rfl, rfl⟩⟩
theorem UGrows.ou {w : World} {base : Nat} {v : Value} {xs : List Int} (h : UGrows w base v xs) (f : UFits xs) : ∃ av cv, v = .slice av xs.length cv ∧ OU w base av cv xs := by
  by_cases h0 : 0 < xs.length
  · obtain ⟨g, cap, rfl, h1, h2, h3, h4⟩ := h.row h0
    exact ⟨_, _, rfl, f, h2, h3, .inr ⟨g, rfl, h1, h4⟩⟩
  · obtain rfl : xs = [] := List.length_eq_zero_iff.1 (by omega)
    rcases h.2 with ⟨h1, _⟩ | ⟨g, cap, cur, rfl, hb, hg, h1, h2, -, -⟩
    · exact ⟨_, _, h1, ufits_nil, Nat.le_refl _, Nat.zero_le _, .inl ⟨rfl, rfl⟩⟩
    · exact ⟨_, _, rfl, ufits_nil, h1, h2, .inr ⟨g, rfl, hb, (Array.getElem?_eq_some_iff.1 hg).1, fun i hi => absurd hi (by simp)⟩⟩
section
variable {w w' : World} {base cv : Nat} {av : Option Addr} {ps : List Int}
theorem OU.inU (h : OU w base av cv ps) : InU w av ps.length cv ps := by
  obtain ⟨h1, h2, h3, ⟨rfl, rfl⟩ | ⟨g, rfl, h4, h5⟩⟩ := h
  · exact ⟨rfl, h2, h3, h1, .inl rfl⟩
  · exact h5.inU h1 h2 h3
theorem OU.mono {base' : Nat} (h : OU w base av cv ps) (hb : base' ≤ base) : OU w base' av cv ps := by
  obtain ⟨h1, h2, h3, h4 | ⟨g, h4, h5, h6⟩⟩ := h
  · exact ⟨h1, h2, h3, .inl h4⟩
  · exact ⟨h1, h2, h3, .inr ⟨g, h4, by omega, h6⟩⟩
theorem OU.later (h : OU w base av cv ps) (k : Below w.heap.size w w') : OU w' base av cv ps := by
  obtain ⟨h1, h2, h3, h4 | ⟨g, h4, h5, h6⟩⟩ := h
  · exact ⟨h1, h2, h3, .inl h4⟩
  · exact ⟨h1, h2, h3, .inr ⟨g, h4, h5, h6.old k⟩⟩
theorem OU.alloc (h : OU w base av cv ps) (o : Obj) : OU (w.alloc o) base av cv ps := h.later ((Below.refl _ _).alloc (Nat.le_refl _) o)
theorem OU.drew (h : OU w base av cv ps) : OU w.drew base av cv ps := h
theorem OU.kept {row : Option Nat} (h : OU w base av cv ps) (g : w.grownBy w' row) (hne : ∀ q, av = some q → some q.block ≠ row) : OU w' base av cv ps := by
  obtain ⟨h1, h2, h3, h4 | ⟨c, h4, h5, h6⟩⟩ := h
  · exact ⟨h1, h2, h3, .inl h4⟩
  · exact ⟨h1, h2, h3, .inr ⟨c, h4, h5, h6.kept g (hne _ h4)⟩⟩
theorem OU.lt (h : OU w base av cv ps) : ∀ q, av = some q → q.block < w.heap.size := by
  intro q e
  obtain ⟨h1, h2, h3, ⟨rfl, _⟩ | ⟨c, rfl, h5, h6⟩⟩ := h
  · cases e
  · cases e; exact h6.1
theorem OU.ge (h : OU w base av cv ps) : ∀ q, av = some q → base ≤ q.block := by
  intro q e
  obtain ⟨h1, h2, h3, ⟨rfl, _⟩ | ⟨c, rfl, h5, h6⟩⟩ := h
  · cases e
  · cases e; exact h5
end
theorem UGrows.young {w : World} {base : Nat} {v : Value} {xs : List Int} (h : UGrows w base v xs) {c : Nat} (hc : w.heap.size ≤ c) : some c ≠ v.ownBlock := fun e => by have := (World.ownsRow.lt h c e.symm).2; omega
end Go.Proofs.YtmllcpcbaojipaaDoor

/- The patterns of a box's ends: by the specification and by the program. Condition: 2^20 pairs at most. -/
namespace Go.Proofs.YtmllcpcbaojipaaDoor
open Go.RowKit
set_option linter.unusedVariables false
set_option maxRecDepth 100000

def bbI (wd n : Int) : Int :=
  if wd = 32 then (if -2139095040 ≤ n ∧ n ≤ 2139095040 then bitsI 2147483648 n else 0)
  else if wd = 64 then (if -9218868437227405312 ≤ n ∧ n ≤ 9218868437227405312 then bitsI 9223372036854775808 n else 0) else 0
theorem bbI_fit (wd n : Int) : 0 ≤ bbI wd n ∧ bbI wd n ≤ 18446744073709551615 := by
  unfold bbI bitsI
  repeat' split
  all_goals omega
theorem iBB (wd n : Int) (w : World) : Calls Tryd.prog 16 #[.int .i64 wd, .int .i64 n] w fun e w' => e = .returned (.int .u64 (bbI wd n)) ∧ Below w.heap.size w w' := by
  unfold bbI
  by_cases h32 : wd = 32
  · subst h32
    rw [if_pos rfl]
    by_cases h : -2139095040 ≤ n ∧ n ≤ 2139095040
    · rw [if_pos h]; exact iBitBits_32 n h.1 h.2 w
    · rw [if_neg h]; exact iBitBits_32_out n h w
  · rw [if_neg h32]
    by_cases h64 : wd = 64
    · subst h64
      rw [if_pos rfl]
      by_cases h : -9218868437227405312 ≤ n ∧ n ≤ 9218868437227405312
      · rw [if_pos h]; exact iBitBits_64 n h.1 h.2 w
      · rw [if_neg h]; exact iBitBits_64_out n h w
    · rw [if_neg h64]; exact iBitBits_no wd n h32 h64 w
theorem sBB (wd n : Int) (w : World) : Calls Tryd.prog 47 #[.int .i64 wd, .int .i64 n] w fun e w' => e = .returned (.int .u64 (bbI wd n)) ∧ Below w.heap.size w w' := by
  unfold bbI
  by_cases h32 : wd = 32
  · subst h32
    rw [if_pos rfl]
    by_cases h : -2139095040 ≤ n ∧ n ≤ 2139095040
    · rw [if_pos h]; exact sBitBits_32 n h.1 h.2 w
    · rw [if_neg h]; exact sBitBits_32_out n h w
  · rw [if_neg h32]
    by_cases h64 : wd = 64
    · subst h64
      rw [if_pos rfl]
      by_cases h : -9218868437227405312 ≤ n ∧ n ≤ 9218868437227405312
      · rw [if_pos h]; exact sBitBits_64 n h.1 h.2 w
      · rw [if_neg h]; exact sBitBits_64_out n h w
    · rw [if_neg h64]; exact sBitBits_no wd n h32 h64 w
def bitsL (wd : Int) (ps : List (Int × Int)) : List Int := ps.flatMap (fun p => [bbI wd p.1, bbI wd p.2])
theorem bitsL_len (wd : Int) (ps : List (Int × Int)) : (bitsL wd ps).length = 2 * ps.length := by
  induction ps with
  | nil => rfl
  | cons p ps ih => simp only [bitsL, List.flatMap_cons, List.length_append, List.length_cons, List.length_nil] at ih ⊢; omega
theorem bitsL_fits (wd : Int) (ps : List (Int × Int)) : UFits (bitsL wd ps) := by
  intro x hx
  simp only [bitsL, List.mem_flatMap] at hx
  obtain ⟨p, -, hp⟩ := hx
  simp at hp
  rcases hp with rfl | rfl <;> exact bbI_fit _ _
theorem bitsL_take {wd : Int} {ps : List (Int × Int)} {k : Nat} {x y : Int} (hk : k < ps.length) (hx : ps.getD k (0, 0) = (x, y)) : bitsL wd (ps.take (k + 1)) = bitsL wd (ps.take k) ++ [bbI wd x, bbI wd y] := by
  rw [List.take_add_one]
  have e : ps[k]? = some (x, y) := by
    rw [List.getD_eq_getElem?_getD, List.getElem?_eq_getElem hk] at hx
    rw [List.getElem?_eq_getElem hk]
    exact congrArg some hx
  rw [e]
  simp [bitsL]
def resU (r : Bool) (xs : List Int) : List Int := if r then xs else []
theorem resU_len {r : Bool} {xs : List Int} {n : Nat} (h : xs.length ≤ n) : (resU r xs).length ≤ n := by
  cases r
  · exact Nat.zero_le _
  · exact h
theorem cells_twoU (w : World) (b : Nat) (hb : b = w.heap.size) (x y : Value) (t : TypeId) : ∀ j u, [x, y][j]? = some u → (w.alloc (.cells #[x, y] t)).cell? ((⟨b, 0, none⟩ : Addr).add j) = some u := by
  subst hb
  intro j u h
  match j, h with
  | 0, h => simp at h; subst h; simp [Addr.add]
  | 1, h => simp at h; subst h; simp [Addr.add]
  | j + 2, h => simp at h
theorem infoU : (Tryd.prog.info? 38).map (fun i => (i.zero, i.size, i.bytes)) = some (some (.int .u64 0), 1, 8) := by kernel_rfl
theorem uints_two (xs : List Int) (x y : Int) : uints (xs ++ [x, y]) = uints xs ++ [.int .u64 x, .int .u64 y] := by simp [uints]
theorem Below.low {n m : Nat} {w w' : World} (h : Below m w w') (hn : n ≤ m) : Below n w w' := ⟨h.os, h.tape, h.output, h.size, fun k hk => h.block k (by omega)⟩
set_option maxRecDepth 100000 in
set_option maxHeartbeats 4000000 in
theorem iBits1 (wd x y : Int) (B : Nat) (v : Value) (xs : List Int) (base : Nat) (w : World) (hc : w.cell? ⟨B, 0, none⟩ = some (.int .i64 wd)) (hBl : B < base) (hbase : base ≤ w.heap.size) (G : UGrows w base v xs) (hn : xs.length ≤ 2097152) :
    Calls Tryd.prog 15 #[v, .agg #[.int .i64 x, .int .i64 y], .pointer (some ⟨B, 0, none⟩)] w fun e w' => (∃ v', e = .returned v' ∧ UGrows w' base v' (xs ++ [bbI wd x, bbI wd y])) ∧ Below base w w' := by
  obtain ⟨i0, hi, hz0, hz1, hz2⟩ := info_parts infoU
  have K := Cel2.made w _ rfl (.int .i64 x) (.int .i64 y) 40
  have hBe : Below w.heap.size w (w.alloc (.cells #[.int .i64 x, .int .i64 y] 40)) := old_alloc (Below.refl _ _) _
  have hc0 := (hBe.cell (p := ⟨B, 0, none⟩) (by show B < _; omega)).trans hc
  go_enter Tryd.func15, Tryd.ntmps15
  generalize hW : w.alloc (.cells #[.int .i64 x, .int .i64 y] 40) = V0 at *
  obtain ⟨k0, k1, k2, k3, k4⟩ := id K
  go_wp2_with fail
  go_region_held3 (fun w' => w'.cell? ⟨B, 0, none⟩ = some (.int .i64 wd) ∧ w'.cell? ⟨w.heap.size, 0, none⟩ = some (.int .i64 x) ∧ w'.cell? ⟨w.heap.size, 1, none⟩ = some (.int .i64 y)) (go_keep) (first | (go_at_call_of 16 (Value.int .i64 x); refine (iBB wd x _).mono ?_; rintro e w1 ⟨rfl, hb1⟩; have K1 := K.drew.later hb1; have hB1 := old_trans (Below.drew hBe) hb1; have c1 := (hB1.cell (p := ⟨B, 0, none⟩) (by show B < _; omega)).trans hc; obtain ⟨q0, q1, q2, q3, q4⟩ := id K1) | (go_at_call_of 16 (Value.int .i64 y); refine (iBB wd y _).mono ?_; rintro e w2 ⟨rfl, hb2⟩; have K2 := K1.later hb2; have hB2 := old_trans hB1 hb2; have c2 := (hB2.cell (p := ⟨B, 0, none⟩) (by show B < _; omega)).trans hc; obtain ⟨r0, r1, r2, r3, r4⟩ := id K2) | (refine step_append_lies _ (by rfl) _ _ 28 (by rfl) base 38 i0 _ 1 8 Tryd.underlying28 hi hz0 hz1 hz2 rfl (by decide) v xs.length (uints xs) (by rfl) ((G.later hB2).alloc _) ⟨_, 0, none⟩ 2 2 [.int .u64 (bbI wd x), .int .u64 (bbI wd y)] (by rfl) rfl (cells_twoU _ _ rfl _ _ _) (by simp [Value.oneCell']) (by decide) (by unfold maxLen; omega) (by omega) (by have := hB2.size; simp; omega) _ rfl ?_; intro g' cap' w5 hown hgrow hat5 hlt5; have hKa := (K2.alloc (.cells #[.int .u64 (bbI wd x), .int .u64 (bbI wd y)] 38)); have z0 := hgrow.cell (a := ⟨w.heap.size, 0, none⟩) hKa.1 (G.young (Nat.le_refl _)); have z1 := hgrow.cell (a := ⟨w.heap.size, 1, none⟩) hKa.2.1 (G.young (Nat.le_refl _)); have z2 := hgrow.cell (a := ⟨B, 0, none⟩) (cell_al' c2 (.cells #[.int .u64 (bbI wd x), .int .u64 (bbI wd y)] 38)) (G.far hBl)))
  all_goals
    have hBa := old_alloc hB2 (.cells #[.int .u64 (bbI wd x), .int .u64 (bbI wd y)] 38)
    have hBb : Below base w w5 := (Below.low hBa hbase).grown hgrow (by have := hBa.size; omega) (fun q e => by have := (World.ownsRow.lt G q e).1; omega)
    have hGn : UGrows w5 base (.slice (some ⟨g', 0, none⟩) (xs.length + 2) cap') (xs ++ [bbI wd x, bbI wd y]) := by
      unfold UGrows
      rw [uints_two, List.length_append]
      exact hown
    go_wp2
    go_ret
    exact ⟨⟨_, rfl, hGn⟩, hBb⟩
set_option maxRecDepth 100000 in
set_option maxHeartbeats 4000000 in
theorem iFoldB (wd : Int) (a : Option Addr) (len cap : Nat) (ps : List (Int × Int)) (B : Nat) (w : World) (hR : InRow w a len cap ps) (hc : w.cell? ⟨B, 0, none⟩ = some (.int .i64 wd)) (hBl : B < w.heap.size) (hl : len ≤ 1048576) :
    Calls Tryd.prog 14 #[.slice a len cap, .slice none 0 0, .func (.func 15) #[] #[.pointer (some ⟨B, 0, none⟩)]] w fun e w' => (∃ v', e = .returned v' ∧ UGrows w' w.heap.size v' (bitsL wd ps)) ∧ Below w.heap.size w w' := by
  have hp := hR.1
  have hE : ∀ args w, (callFunc 15 args).run Tryd.prog w = .ok (.enter 15 args) w := fun _ _ => by kernel_rfl
  have hfull : Hid (bitsL wd (ps.take len) = bitsL wd ps) := by show _ = _; rw [List.take_of_length_le (by omega)]
  go_enter Tryd.func14, Tryd.ntmps14
  go_wp2
  go_loopw [7, 12] (fun s i wr => ∃ k : Nat, k ≤ len ∧ UGrows wr w.heap.size s (bitsL wd (ps.take k)) ∧ i = .int .i64 k ∧ Below w.heap.size w wr) (fun _ b _ => len - (intOf b).toNat)
  case atStart => exact ⟨0, by omega, UGrows.nil _ _, rfl, (by repeat (first | exact Below.refl _ _ | refine Below.drew ?_ | refine old_alloc ?_ _ | refine old_trans ?_ (by assumption)))⟩
  case round =>
    obtain ⟨k, hk, G, rfl, hb⟩ := hrel
    by_cases hlt : k < len
    · obtain ⟨b, off, x, y, rfl, hbl, hx, hq, c0, c1⟩ := (hR.old hb).at hlt
      have H := hd (iBits1 wd x y B _ (bitsL wd (ps.take k)) w.heap.size wr ((hb.cell (p := ⟨B, 0, none⟩) hBl).trans hc) hBl hb.size G (by rw [bitsL_len, List.length_take]; omega))
      have hst : Hid (bitsL wd (ps.take (k + 1)) = bitsL wd (ps.take k) ++ [bbI wd x, bbI wd y]) := bitsL_take (by omega) hx
      go_wp2_with fail
      refine H.out.mono ?_
      rintro e w1 ⟨⟨v', rfl, G'⟩, hb1⟩
      go_wp2
      go_roundw
      case rel => exact ⟨k + 1, by omega, by rw [hst.out]; exact G', by go_num, hb.trans hb1⟩
      case measure => simp [intOf]; omega
    · obtain rfl : k = len := by omega
      rw [hfull.out] at G
      have hni : ¬ ((k : Int) < (k : Int)) := by omega
      go_wp2
      go_ret
      exact ⟨⟨_, rfl, G⟩, hb⟩
theorem iBoxBitsO (wd : Int) (a : Option Addr) (cap : Nat) (ps : List (Int × Int)) (w : World) (hR : InRow w a ps.length cap ps) (hl : ps.length ≤ 1048576) :
    Calls Tryd.prog 5 #[.int .i64 wd, .agg #[.slice a ps.length cap]] w fun e w' => (∃ av cv, e = .returned (.slice av (resU (okRow wd ps) (bitsL wd ps)).length cv) ∧ OU w' w.heap.size av cv (resU (okRow wd ps) (bitsL wd ps))) ∧ Below w.heap.size w w' := by
  have hB : Below w.heap.size w ((w.alloc (.cells #[.int .i64 wd] 3)).alloc (.cells #[.slice a ps.length cap] 25)) := (by repeat (first | exact Below.refl _ _ | refine Below.drew ?_ | refine old_alloc ?_ _ | refine old_trans ?_ (by assumption)))
  have C : Cel1 ((w.alloc (.cells #[.int .i64 wd] 3)).alloc (.cells #[.slice a ps.length cap] 25)) w.heap.size (.int .i64 wd) := (Cel1.made w _ rfl _ _).alloc _
  have K : Cel1 ((w.alloc (.cells #[.int .i64 wd] 3)).alloc (.cells #[.slice a ps.length cap] 25)) (w.heap.size + 1) (.slice a ps.length cap) := Cel1.made _ _ (by simp) _ _
  have OK := hd (fun w' (h : Below w.heap.size w w') => iBoxOk wd a ps.length cap ps w' (hR.old h))
  cases hok : okRow wd ps
  · rw [hok] at OK
    show Calls _ _ _ _ fun e w' => (∃ av cv, e = .returned (.slice av 0 cv) ∧ OU w' w.heap.size av cv []) ∧ Below w.heap.size w w'
    clear hok
    go_enter Tryd.func5, Tryd.ntmps5
    generalize hW : (w.alloc (.cells #[.int .i64 wd] 3)).alloc (.cells #[.slice a ps.length cap] 25) = V0 at *
    obtain ⟨c0, c1, c2⟩ := id C
    obtain ⟨k0, k1, k2⟩ := id K
    go_wp2_with fail
    refine (OK.out _ hB).mono ?_
    rintro e w1 ⟨rfl, hb1⟩
    go_wp2
    go_ret
    exact ⟨⟨_, _, rfl, OU.none _ _⟩, old_trans hB hb1⟩
  · rw [hok] at OK
    show Calls _ _ _ _ fun e w' => (∃ av cv, e = .returned (.slice av (bitsL wd ps).length cv) ∧ OU w' w.heap.size av cv (bitsL wd ps)) ∧ Below w.heap.size w w'
    clear hok
    go_enter Tryd.func5, Tryd.ntmps5
    generalize hW : (w.alloc (.cells #[.int .i64 wd] 3)).alloc (.cells #[.slice a ps.length cap] 25) = V0 at *
    obtain ⟨c0, c1, c2⟩ := id C
    obtain ⟨k0, k1, k2⟩ := id K
    go_wp2_with fail
    refine (OK.out _ hB).mono ?_
    rintro e w1 ⟨rfl, hb1⟩
    replace hB := old_trans hB hb1
    replace C := C.later hb1
    replace K := K.later hb1
    clear c0 c1 c2 k0 k1 k2
    obtain ⟨c0, c1, c2⟩ := id C
    obtain ⟨k0, k1, k2⟩ := id K
    have FD := hd (iFoldB wd a ps.length cap ps w.heap.size w1 (hR.old hB) c0 c2 hl)
    go_wp2_with fail
    refine FD.out.mono ?_
    rintro e w2 ⟨⟨v', rfl, G⟩, hb2⟩
    obtain ⟨av, cv, rfl, O⟩ := G.ou (bitsL_fits _ _)
    go_wp2
    go_ret
    exact ⟨⟨_, _, rfl, O.mono hB.size⟩, old_trans hB hb2⟩
end Go.Proofs.YtmllcpcbaojipaaDoor

/- The patterns of a box's ends, by the specification. Condition: 2^20 pairs at most. -/
namespace Go.Proofs.YtmllcpcbaojipaaDoor
open Go.RowKit
set_option linter.unusedVariables false
set_option maxRecDepth 100000

end Go.Proofs.YtmllcpcbaojipaaDoor

/- The patterns of a box's ends, by the specification. Condition: 2^20 pairs at most. -/
namespace Go.Proofs.YtmllcpcbaojipaaDoor
open Go.RowKit
set_option linter.unusedVariables false
set_option maxRecDepth 100000

set_option maxRecDepth 100000 in
set_option maxHeartbeats 8000000 in
theorem sBoxBitsG (wd : Int) (a : Option Addr) (cap : Nat) (ps : List (Int × Int)) (w : World) (hR : InRow w a ps.length cap ps) (hl : ps.length ≤ 1048576) :
    Calls Tryd.prog 25 #[.int .i64 wd, .agg #[.slice a ps.length cap]] w fun e w' => (∃ base v, e = .returned v ∧ w.heap.size ≤ base ∧ base ≤ w'.heap.size ∧ UGrows w' base v (resU (okRow wd ps) (bitsL wd ps))) ∧ Below w.heap.size w w' := by
  obtain ⟨i0, hi, hz0, hz1, hz2⟩ := info_parts infoU
  have hB : Below w.heap.size w (w.alloc (.cells #[.slice a ps.length cap] 25)) := (by repeat (first | exact Below.refl _ _ | refine Below.drew ?_ | refine old_alloc ?_ _ | refine old_trans ?_ (by assumption)))
  have K : Cel1 (w.alloc (.cells #[.slice a ps.length cap] 25)) w.heap.size (.slice a ps.length cap) := Cel1.made w _ rfl _ _
  have OK := hd (fun w' (h : Below w.heap.size w w') => sBoxOk wd a ps.length cap ps w' (hR.old h))
  cases hok : okRow wd ps
  · rw [hok] at OK
    show Calls _ _ _ _ fun e w' => (∃ base v, e = .returned v ∧ w.heap.size ≤ base ∧ base ≤ w'.heap.size ∧ UGrows w' base v []) ∧ Below w.heap.size w w'
    clear hok
    go_enter Tryd.func25, Tryd.ntmps25
    generalize hW : w.alloc (.cells #[.slice a ps.length cap] 25) = V0 at *
    obtain ⟨k0, k1, k2⟩ := id K
    go_wp2_with fail
    refine (OK.out _ hB).mono ?_
    rintro e w1 ⟨rfl, hb1⟩
    go_wp2
    go_ret
    exact ⟨⟨w.heap.size, _, rfl, Nat.le_refl _, (old_trans hB hb1).size, UGrows.nil _ _⟩, old_trans hB hb1⟩
  rw [hok] at OK
  show Calls _ _ _ _ fun e w' => (∃ base v, e = .returned v ∧ w.heap.size ≤ base ∧ base ≤ w'.heap.size ∧ UGrows w' base v (bitsL wd ps)) ∧ Below w.heap.size w w'
  clear hok
  have hfull : Hid (bitsL wd (ps.take ps.length) = bitsL wd ps) := by show _ = _; rw [List.take_length]
  go_enter Tryd.func25, Tryd.ntmps25
  generalize hW : w.alloc (.cells #[.slice a ps.length cap] 25) = V0 at *
  obtain ⟨k0, k1, k2⟩ := id K
  go_wp2_with fail
  refine (OK.out _ hB).mono ?_
  rintro e w1 ⟨rfl, hb1⟩
  replace hB := old_trans hB hb1
  replace K := K.later hb1
  clear k0 k1 k2 hb1 hW
  go_wp2_with fail
  go_loopw [5, 6] (fun s i wr => ∃ k : Nat, k ≤ ps.length ∧ UGrows wr w1.heap.size s (bitsL wd (ps.take k)) ∧ i = .int .i64 k ∧ Below w1.heap.size w1 wr) (fun _ b _ => ps.length - (intOf b).toNat)
  case atStart => exact ⟨0, by omega, UGrows.nil _ _, rfl, Below.refl _ _⟩
  case round =>
    obtain ⟨k, hk, G, rfl, hb⟩ := hrel
    have Kr := K.later hb
    obtain ⟨k0, k1, k2⟩ := id Kr
    have hKl := K.2.2
    have hBw := old_trans hB hb
    by_cases hlt : k < ps.length
    · obtain ⟨b, off, x, y, rfl, hbl, hx, hq, c0, c1⟩ := (hR.old hBw).at hlt
      have hst : Hid (bitsL wd (ps.take (k + 1)) = bitsL wd (ps.take k) ++ [bbI wd x, bbI wd y]) := bitsL_take hlt hx
      have hbw : b < w1.heap.size := by
        obtain ⟨b', off', x', y', e', hb', -⟩ := (hR.old hB).at hlt
        injection e' with e'; injection e' with e1 e2; subst e1; exact hb'
      have hxl : (bitsL wd (ps.take k)).length ≤ 2097152 := by rw [bitsL_len, List.length_take]; omega
      have hkI : (k : Int) < (ps.length : Int) := by omega
      have hkI0 : (0 : Int) ≤ (k : Int) := by omega
      have hsz := hb.size
      generalize bitsL wd (ps.take k) = xs at *
      have SB1 := hd (sBB wd x)
      have SB2 := hd (sBB wd y)
      have ca := hb.cell (p := ⟨w.heap.size, 0, none⟩) hKl
      generalize bbI wd x = A1 at *
      generalize bbI wd y = A2 at *
      obtain ⟨v, hv⟩ : ∃ v, v = u5 := ⟨_, rfl⟩
      subst hv
      go_wp2_with fail
      go_region_held3 (fun w' => w'.cell? ⟨w.heap.size, 0, none⟩ = some (.slice (some ⟨b, off, none⟩) ps.length cap) ∧ w'.cell? ⟨b, off + k * 2, none⟩ = some (.int .i64 x) ∧ w'.cell? ⟨b, off + k * 2 + 1, none⟩ = some (.int .i64 y)) (go_keep) (first | (go_at_call_of 47 (Value.int .i64 x); refine (SB1.out _).mono ?_; rintro e w2 ⟨rfl, hb2⟩; have K2 := Kr.drew.later hb2; have hB2 := old_trans (Below.drew hb) hb2; have R2 := (hR.old (old_trans (Below.drew hBw) hb2)); have k20 := K2.1; have d0 := (hb2.cell (p := ⟨b, off + k * 2, none⟩) hbl).trans c0; have d1 := (hb2.cell (p := ⟨b, off + k * 2 + 1, none⟩) hbl).trans c1) | (go_at_call_of 47 (Value.int .i64 y); refine (SB2.out _).mono ?_; rintro e w3 ⟨rfl, hb3⟩; have K3 := K2.later hb3; have hB3 := old_trans hB2 hb3; have k30 := K3.1; have s23 := hb2.size; have f0 := (hb3.cell (p := ⟨b, off + k * 2, none⟩) (Nat.lt_of_lt_of_le hbl s23)).trans d0; have f1 := (hb3.cell (p := ⟨b, off + k * 2 + 1, none⟩) (Nat.lt_of_lt_of_le hbl s23)).trans d1) | (refine step_append_lies _ (by rfl) _ _ 28 (by rfl) w1.heap.size 38 i0 _ 1 8 Tryd.underlying28 hi hz0 hz1 hz2 rfl (by decide) v xs.length (uints xs) (by rfl) (((G.later (Below.drew (Below.refl _ _))).later hb2).later hb3 |>.alloc _) ⟨_, 0, none⟩ 2 2 [.int .u64 A1, .int .u64 A2] (by rfl) rfl (cells_twoU _ _ rfl _ _ _) (by simp [Value.oneCell']) (by decide) (by unfold maxLen; omega) (by omega) (by have := hB3.size; simp; omega) _ rfl ?_; intro g' cap' w5 hown hgrow hat5 hlt5; have z0 := hgrow.cell (a := ⟨w.heap.size, 0, none⟩) (cell_al' k30 (.cells #[.int .u64 A1, .int .u64 A2] 38)) (G.far hKl); have z1 := hgrow.cell (a := ⟨b, off + k * 2, none⟩) (cell_al' f0 (.cells #[.int .u64 A1, .int .u64 A2] 38)) (G.far hbw); have z2 := hgrow.cell (a := ⟨b, off + k * 2 + 1, none⟩) (cell_al' f1 (.cells #[.int .u64 A1, .int .u64 A2] 38)) (G.far hbw)))
      all_goals
        have hBa := old_alloc hB3 (.cells #[.int .u64 A1, .int .u64 A2] 38)
        have hBb : Below w1.heap.size w1 w5 := hBa.grown hgrow hBa.size (fun q e => by have := (World.ownsRow.lt G q e).1; omega)
        have hGn : UGrows w5 w1.heap.size (.slice (some ⟨g', 0, none⟩) (xs.length + 2) cap') (xs ++ [A1, A2]) := by
          unfold UGrows
          rw [uints_two, List.length_append]
          exact hown
        go_wp2
        go_roundw
        case rel => exact ⟨k + 1, by omega, by rw [hst.out]; exact hGn, by go_num, hBb⟩
        case measure => simp [intOf]; omega
    · obtain rfl : k = ps.length := by omega
      rw [hfull.out] at G
      have hni : ¬ ((ps.length : Int) < (ps.length : Int)) := by omega
      go_wp2
      go_ret
      exact ⟨⟨_, _, rfl, hB.size, hb.size, G⟩, hBw⟩
end Go.Proofs.YtmllcpcbaojipaaDoor
