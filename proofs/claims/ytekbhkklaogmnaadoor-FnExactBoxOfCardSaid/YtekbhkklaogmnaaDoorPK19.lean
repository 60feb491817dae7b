/- Stores into a new variable leave the boxes and rows that lay ahead. No condition. -/
import Derived.Test.YtekbhkklaogmnaaDoorPK18
import Derived.Test.YtekbhkklaogmnaaDoorPK16
import Derived.Deep.RegionHeld3
import Derived.Test.YtekbhkklaogmnaaDoorPK17
import Derived.Laws.CopyRow
import Derived.Deep.WholeRow
import Derived.Deep.AppendLies
import Derived.Deep.RegionLaw
import Derived.Test.YtekbhkklaogmnaaDoorPK01
import Derived.Test.YtekbhkklaogmnaaDoorPK04
namespace Go.Proofs.YtekbhkklaogmnaaDoor
open Go.RowKit
set_option linter.unusedVariables false
set_option maxRecDepth 100000

theorem OB.mono {w : World} {b b' cv : Nat} {av : Option Addr} {ps : List (Int × Int)} (h : OB w b av cv ps) (hb : b' ≤ b) : OB w b' av cv ps := by
  obtain ⟨h1, h2, h3, h4 | ⟨g, h4, h5, h6⟩⟩ := h
  · exact ⟨h1, h2, h3, .inl h4⟩
  · exact ⟨h1, h2, h3, .inr ⟨g, h4, Nat.le_trans hb h5, h6⟩⟩
theorem OB.set {w : World} {base cv : Nat} {av : Option Addr} {ps : List (Int × Int)} (h : OB w base av cv ps) (b : Nat) (hne : ∀ q, av = some q → q.block ≠ b) (v : Value) : OB (w.setCell ⟨b, 0, none⟩ v) base av cv ps := by
  obtain ⟨h1, h2, h3, h4 | ⟨g, h4, h5, h6⟩⟩ := h
  · exact ⟨h1, h2, h3, .inl h4⟩
  · exact ⟨h1, h2, h3, .inr ⟨g, h4, h5, h6.other ⟨b, 0, none⟩ (hne _ h4) v⟩⟩
end Go.Proofs.YtekbhkklaogmnaaDoor

/- A new box with another pair at one coordinate: by the program (make, copy, store) and by the specification (append). Conditions: 2^20 pairs at most. -/
namespace Go.Proofs.YtekbhkklaogmnaaDoor
open Go.RowKit
set_option linter.unusedVariables false
set_option maxRecDepth 100000

theorem InRow.src {w : World} {b off len cap : Nat} {ps : List (Int × Int)} (h : InRow w (some ⟨b, off, none⟩) len cap ps) (h0 : 0 < len) : ∀ j v, (flat ps)[j]? = some v → w.cell? ((⟨b, off, none⟩ : Addr).add j) = some v := by
  intro j v hj
  have hl := h.1
  have hlt : j < ps.length * 2 := by
    have := (List.getElem?_eq_some_iff.1 hj).1
    rw [flat_length] at this; exact this
  have ad : (⟨b, off, none⟩ : Addr).add j = ⟨b, off + j, none⟩ := by
    by_cases h : j = 0
    · subst h; simp [Addr.add]
    · simp [Addr.add, h]
  rw [ad]
  rcases h.2.2.2.2 with h5 | ⟨b', off', e, -, hc⟩
  · omega
  obtain ⟨rfl, rfl⟩ : b = b' ∧ off = off' := by injection e with e; injection e with h1 h2; exact ⟨h1, h2⟩
  have hc2 := hc (j / 2) (by omega)
  have f := flat_get ps (j / 2) (by omega)
  by_cases hp : j % 2 = 0
  · have ej : j / 2 * 2 = j := by omega
    rw [ej] at hc2 f
    rw [hc2.1, ← f.1, hj]
  · have ej : j / 2 * 2 + 1 = j := by omega
    rw [ej] at hc2 f
    rw [hc2.2, ← f.2, hj]
theorem Row.flat (w : World) (ps : List (Int × Int)) (t : TypeId) : Row (w.alloc (.cells (flat ps).toArray t)) w.heap.size ps := by
  refine ⟨by simp, fun i hi => ?_⟩
  have f := flat_get ps i hi
  exact ⟨⟨by simp [f.1], by simp [f.2]⟩, by simp, by simp⟩

end Go.Proofs.YtekbhkklaogmnaaDoor

/- A new box with another pair at one coordinate, by the specification's loop over append. Conditions: 2^20 pairs at most. -/
namespace Go.Proofs.YtekbhkklaogmnaaDoor
open Go.RowKit
set_option linter.unusedVariables false
set_option maxRecDepth 100000

theorem Cel2.kept {w w' : World} {c : Nat} {x y : Value} {row : Option Nat} (h : Cel2 w c x y) (g : w.grownBy w' row) (hne : some c ≠ row) : Cel2 w' c x y := by
  obtain ⟨h1, h2, h3, h4, h5⟩ := h
  have e := g.block c h5 hne
  exact ⟨(World.cell?_of_block (a := ⟨c, 0, none⟩) e).trans h1, (World.cell?_of_block (a := ⟨c, 1, none⟩) e).trans h2, (World.frozen?_of_block (a := ⟨c, 0, none⟩) e).trans h3, (World.frozen?_of_block (a := ⟨c, 1, none⟩) e).trans h4, Nat.lt_of_lt_of_le h5 g.size⟩
end Go.Proofs.YtekbhkklaogmnaaDoor

/- Lists of numbers without sign: in memory of their own, held against each other, marked. No condition. -/
namespace Go.Proofs.YtekbhkklaogmnaaDoor
open Go.RowKit
set_option linter.unusedVariables false
set_option maxRecDepth 100000

/-- numbers in a block of their own -/
def URow (w : World) (b : Nat) (xs : List Int) : Prop :=
  b < w.heap.size ∧ ∀ i, i < xs.length → w.cell? ⟨b, i, none⟩ = some (.int .u64 (xs.getD i 0)) ∧ w.frozen? ⟨b, i, none⟩ = false
def UFits (xs : List Int) : Prop := ∀ x ∈ xs, 0 ≤ x ∧ x ≤ 18446744073709551615
/-- numbers that lie somewhere -/
def InU (w : World) (a : Option Addr) (len cap : Nat) (xs : List Int) : Prop :=
  xs.length = len ∧ len ≤ cap ∧ cap ≤ maxLen ∧ UFits xs ∧
  (len = 0 ∨ ∃ b off : Nat, a = some ⟨b, off, none⟩ ∧ b < w.heap.size ∧ ∀ i, i < len → w.cell? ⟨b, off + i, none⟩ = some (.int .u64 (xs.getD i 0)))
theorem InU.old {w w' : World} {a : Option Addr} {len cap : Nat} {xs : List Int} (h : InU w a len cap xs) (b : Below w.heap.size w w') : InU w' a len cap xs := by
  obtain ⟨h1, h2, h3, h4, h5⟩ := h
  refine ⟨h1, h2, h3, h4, ?_⟩
  rcases h5 with h5 | ⟨bb, off, q1, q2, q3⟩
  · exact .inl h5
  · exact .inr ⟨bb, off, q1, Nat.lt_of_lt_of_le q2 b.size, fun i hi => (b.cell (p := ⟨bb, off + i, none⟩) q2).trans (q3 i hi)⟩
theorem InU.alloc {w : World} {a : Option Addr} {len cap : Nat} {xs : List Int} (h : InU w a len cap xs) (o : Obj) : InU (w.alloc o) a len cap xs := h.old ((Below.refl _ _).alloc (Nat.le_refl _) o)
theorem InU.drew {w : World} {a : Option Addr} {len cap : Nat} {xs : List Int} (h : InU w a len cap xs) : InU w.drew a len cap xs := h
theorem InU.at {w : World} {a : Option Addr} {len cap : Nat} {xs : List Int} (h : InU w a len cap xs) {k : Nat} (hk : k < len) : ∃ (b off : Nat) (x : Int), a = some ⟨b, off, none⟩ ∧ b < w.heap.size ∧ xs.getD k 0 = x ∧ (0 ≤ x ∧ x ≤ 18446744073709551615) ∧ w.cell? ⟨b, off + k, none⟩ = some (.int .u64 x) := by
  rcases h.2.2.2.2 with h0 | ⟨b, off, e, hb, hc⟩
  · omega
  · exact ⟨b, off, _, e, hb, rfl, h.2.2.2.1 _ (getD_mem (by rw [h.1]; exact hk)), hc k hk⟩
theorem InU.kept {w w' : World} {a : Option Addr} {len cap : Nat} {xs : List Int} {row : Option Nat} (h : InU w a len cap xs) (g : w.grownBy w' row) (hne : 0 < len → ∀ q, a = some q → some q.block ≠ row) : InU w' a len cap xs := by
  obtain ⟨h1, h2, h3, h4, h5⟩ := h
  refine ⟨h1, h2, h3, h4, ?_⟩
  by_cases h0 : len = 0
  · exact .inl h0
  rcases h5 with h5 | ⟨b, off, q1, q2, q3⟩
  · exact .inl h5
  · refine .inr ⟨b, off, q1, Nat.lt_of_lt_of_le q2 g.size, fun i hi => ?_⟩
    have e := g.block b q2 (hne (by omega) _ q1)
    exact (World.cell?_of_block (a := ⟨b, off + i, none⟩) e).trans (q3 i hi)
theorem InU.far {w : World} {a : Option Addr} {len cap : Nat} {xs : List Int} (h : InU w a len cap xs) : 0 < len → ∀ q, a = some q → q.block < w.heap.size := by
  intro h0 q e
  rcases h.2.2.2.2 with h5 | ⟨b, off, q1, q2, -⟩
  · omega
  · rw [q1] at e; cases e; exact q2
theorem InU.len {w : World} {a : Option Addr} {len cap : Nat} {xs : List Int} (h : InU w a len cap xs) : len ≤ 9223372036854775807 := by
  have := Nat.le_trans h.2.1 h.2.2.1
  unfold maxLen at this
  omega
theorem URow.old {w w' : World} {b : Nat} {xs : List Int} (h : URow w b xs) (k : Below w.heap.size w w') : URow w' b xs :=
  ⟨Nat.lt_of_lt_of_le h.1 k.size, fun i hi => ⟨(k.cell (p := ⟨b, i, none⟩) h.1).trans (h.2 i hi).1, (k.frozen (p := ⟨b, i, none⟩) h.1).trans (h.2 i hi).2⟩⟩
theorem URow.inU {w : World} {b cap : Nat} {xs : List Int} (h : URow w b xs) (f : UFits xs) (h1 : xs.length ≤ cap) (h2 : cap ≤ maxLen) : InU w (some ⟨b, 0, none⟩) xs.length cap xs :=
  ⟨rfl, h1, h2, f, .inr ⟨b, 0, rfl, h.1, fun i hi => by rw [Nat.zero_add]; exact (h.2 i hi).1⟩⟩
theorem URow.at {w : World} {b : Nat} {xs : List Int} (h : URow w b xs) {k : Nat} (hk : k < xs.length) : ∃ x : Int, xs.getD k 0 = x ∧ w.cell? ⟨b, k, none⟩ = some (.int .u64 x) ∧ w.frozen? ⟨b, k, none⟩ = false := ⟨_, rfl, (h.2 k hk).1, (h.2 k hk).2⟩
theorem URow.set {w : World} {b : Nat} {xs : List Int} (h : URow w b xs) (k : Nat) (hk : k < xs.length) (x : Int) : URow (w.setCell ⟨b, k, none⟩ (.int .u64 x)) b (xs.set k x) := by
  refine ⟨by simpa [World.setCell] using h.1, fun i hi => ?_⟩
  rw [List.length_set] at hi
  obtain ⟨h1, h3⟩ := h.2 i hi
  by_cases e : i = k
  · subst e
    have eg : (xs.set i x).getD i 0 = x := by simp [List.getD_eq_getElem?_getD, hk]
    rw [eg]
    exact ⟨World.cell?_setCell_same _ _ _ h1, by simpa using h3⟩
  · have eg : (xs.set k x).getD i 0 = xs.getD i 0 := by simp [List.getD_eq_getElem?_getD, Ne.symm e]
    rw [eg]
    refine ⟨?_, by simpa using h3⟩
    rw [World.cell?_setCell_other _ _ _ _ (by intro h; injection h with _ h2; omega)]; exact h1
theorem URow.kept {w w' : World} {c : Nat} {xs : List Int} {row : Option Nat} (h : URow w c xs) (g : w.grownBy w' row) (hne : some c ≠ row) : URow w' c xs := by
  refine ⟨Nat.lt_of_lt_of_le h.1 g.size, fun i hi => ?_⟩
  have e := g.block c h.1 hne
  exact ⟨(World.cell?_of_block (a := ⟨c, i, none⟩) e).trans (h.2 i hi).1, (World.frozen?_of_block (a := ⟨c, i, none⟩) e).trans (h.2 i hi).2⟩
theorem imarks_fitsU {k : Int} {n : Nat} (h0 : 0 ≤ k) (h1 : k ≤ 16777216) (hn : n ≤ 1048576) : UFits (imarks k n) := by
  intro p hp
  unfold imarks at hp
  obtain ⟨i, hi, rfl⟩ := List.mem_map.1 hp
  have := List.mem_range.1 hi
  omega
set_option maxHeartbeats 2000000 in
theorem lEqUs (a a' : Option Addr) (len cap cap' : Nat) (xs : List Int) (w : World) (hR : InU w a len cap xs) (hR' : InU w a' len cap' xs) :
    Calls Tryd.prog 8 #[.slice a len cap, .slice a' len cap'] w fun e w' => e = .returned (.bool true) ∧ Below w.heap.size w w' := by
  have hlen := hR.len
  go_enter Tryd.func8, Tryd.ntmps8
  go_wp2
  go_loopw [5] (fun a wr => ∃ k : Nat, k ≤ len ∧ a = .int .i64 k ∧ Below w.heap.size w wr) (fun b _ => len - (intOf b).toNat)
  case atStart => exact ⟨0, by omega, rfl, (by repeat (first | exact Below.refl _ _ | refine Below.drew ?_ | refine old_alloc ?_ _ | refine old_trans ?_ (by assumption)))⟩
  case round =>
    obtain ⟨k, hk, rfl, hb⟩ := hrel
    by_cases hlt : k < len
    · obtain ⟨b, off, x, rfl, hbl, hx, -, c0⟩ := (hR.old hb).at hlt
      obtain ⟨b', off', x', rfl, hbl', hx', -, c0'⟩ := (hR'.old hb).at hlt
      obtain rfl := hx.symm.trans hx'
      go_wp2_with fail
      go_region
      all_goals
        go_wp2
        go_roundw
        case rel => exact ⟨k + 1, by omega, by go_num, hb.drew⟩
        case measure => simp [intOf]; omega
    · obtain rfl : k = len := by omega
      go_wp2
      go_ret
      exact ⟨rfl, hb⟩
set_option maxHeartbeats 2000000 in
theorem lMarkRowU (b cap : Nat) (xs : List Int) (k : Int) (w : World) (hr : URow w b xs) (hl : xs.length ≤ 1048576) (k0 : 0 ≤ k) (k1 : k ≤ 16777216) :
    Calls Tryd.prog 9 #[.slice (some ⟨b, 0, none⟩) xs.length cap, .int .i64 k] w fun e w' => e = .returned (.int .i64 (k + xs.length)) ∧ URow w' b (imarks k xs.length) ∧ w.grownBy w' (some b) := by
  go_enter Tryd.func9, Tryd.ntmps9
  go_wp2
  go_loopw [1, 5] (fun s i wr => ∃ (j : Nat) (qs : List Int), j ≤ xs.length ∧ s = .int .i64 (k + j) ∧ i = .int .i64 j ∧ IUpto j qs (imarks k xs.length) ∧ URow wr b qs ∧ w.grownBy wr (some b)) (fun _ b _ => xs.length - (intOf b).toNat)
  case atStart => exact ⟨0, xs, by omega, by simp, rfl, IUpto.zero (by rw [imarks_length]), hr, World.grownBy.refl _ _⟩
  case round =>
    obtain ⟨j, qs, hj, rfl, rfl, hu, hrr, hg⟩ := hrel
    have hql : qs.length = xs.length := by rw [hu.1, imarks_length]
    by_cases hlt : j < xs.length
    · obtain ⟨x', -, d0, d2⟩ := hrr.at (k := j) (by omega)
      have hst := hrr.set j (by omega) (k + j)
      have hup := hu.step (by rw [imarks_length]; omega)
      rw [imarks_getD k hlt] at hup
      go_wp2
      go_roundw
      case rel => exact ⟨j + 1, _, by omega, by go_num, by go_num, hup, hst, grown_set hg _ _⟩
      case measure => simp [intOf]; omega
    · obtain rfl : j = xs.length := by omega
      have hq : qs = imarks k xs.length := IUpto.all (by rw [imarks_length]; exact hu)
      subst hq
      go_wp2
      go_ret
      exact ⟨rfl, hrr, hg⟩
set_option maxHeartbeats 1000000 in
theorem lMarkNoneU (a : Option Addr) (cap : Nat) (k : Int) (w : World) :
    Calls Tryd.prog 9 #[.slice a 0 cap, .int .i64 k] w fun e w' => e = .returned (.int .i64 k) ∧ w' = w := by
  go_enter Tryd.func9, Tryd.ntmps9
  go_wp2
  go_loopw [1, 5] (fun s i wr => s = .int .i64 k ∧ i = .int .i64 0 ∧ wr = w) (fun _ _ _ => 0)
  case atStart => exact ⟨rfl, rfl, rfl⟩
  case round =>
    obtain ⟨rfl, rfl, rfl⟩ := hrel
    go_wp2
    go_ret
    exact ⟨rfl, rfl⟩
def uints (xs : List Int) : List Value := xs.map (fun x => .int .u64 x)
theorem uints_get {xs : List Int} {i : Nat} (h : i < xs.length) : (uints xs)[i]? = some (.int .u64 (xs.getD i 0)) := by
  simp [uints, List.getD_eq_getElem?_getD, h]
/-- a list that is being made -/
def UGrows (w : World) (base : Nat) (v : Value) (xs : List Int) : Prop := w.ownsRow base 37 1 v xs.length (uints xs)
theorem UGrows.nil (w : World) (base : Nat) : UGrows w base (.slice none 0 0) [] := World.ownsRow_nil w base _ _
theorem UGrows.kept {w w' : World} {base : Nat} {v : Value} {xs : List Int} {row : Option Nat} (h : UGrows w base v xs) (g : w.grownBy w' row) (hne : ∀ b, row = some b → b < base) : UGrows w' base v xs := by
  refine World.ownsRow.kept h g ?_
  cases hv : v.ownBlock with
  | none => exact .inl rfl
  | some k =>
    refine .inr (fun e => ?_)
    have := hne k e.symm
    have := (World.ownsRow.lt h k hv).1
    omega
theorem UGrows.later {w w' : World} {base : Nat} {v : Value} {xs : List Int} (h : UGrows w base v xs) (g : Below w.heap.size w w') : UGrows w' base v xs := h.kept (grown_below g) (by simp)
theorem UGrows.alloc {w : World} {base : Nat} {v : Value} {xs : List Int} (h : UGrows w base v xs) (o : Obj) : UGrows (w.alloc o) base v xs := h.later ((Below.refl _ _).alloc (Nat.le_refl _) o)
theorem UGrows.far {w : World} {base : Nat} {v : Value} {xs : List Int} (h : UGrows w base v xs) {c : Nat} (hc : c < base) : some c ≠ v.ownBlock := fun e => by have := (World.ownsRow.lt h c e.symm).1; omega
theorem UGrows.row {w : World} {base : Nat} {v : Value} {xs : List Int} (h : UGrows w base v xs) (hp : 0 < xs.length) : ∃ g cap, v = .slice (some ⟨g, 0, none⟩) xs.length cap ∧ base ≤ g ∧ xs.length ≤ cap ∧ cap ≤ maxLen ∧ URow w g xs := by
  have h' := h
  rcases h.2 with ⟨_, h0⟩ | ⟨g, cap, cur, rfl, hb, hg, h1, h2, -, -⟩
  · omega
  refine ⟨g, cap, rfl, hb, h1, h2, (Array.getElem?_eq_some_iff.1 hg).1, fun i hi => ?_⟩
  exact ⟨(World.ownsRow.cellAt h' i (by omega)).trans (uints_get hi), World.ownsRow.frozenAt h' _⟩
theorem UGrows.none {w : World} {base : Nat} {v : Value} (h : UGrows w base v []) : ∃ av cv, v = .slice av 0 cv := by
  rcases h.2 with ⟨h0, _⟩ | ⟨g, cap, cur, rfl, hb, hg, h1, h2, -, -⟩
  · exact ⟨_, _, h0⟩
  · exact ⟨_, _, rfl⟩
/-- numbers in memory of their own, at or beyond base; or none -/
def OU (w : World) (base : Nat) (av : Option Addr) (cv : Nat) (xs : List Int) : Prop :=
  UFits xs ∧ xs.length ≤ cv ∧ cv ≤ maxLen ∧ ((av = none ∧ xs = []) ∨ ∃ g, av = some ⟨g, 0, none⟩ ∧ base ≤ g ∧ URow w g xs)
theorem ufits_nil : UFits [] := fun p hp => absurd hp (by simp)
theorem OU.none (w : World) (base : Nat) : OU w base none 0 [] := ⟨ufits_nil, Nat.le_refl _, Nat.zero_le _, .inl ⟨rfl, rfl⟩⟩
section
variable {w w' : World} {base cv : Nat} {av : Option Addr} {ps : List Int}
theorem OU.inU (h : OU w base av cv ps) : InU w av ps.length cv ps := by
  obtain ⟨h1, h2, h3, ⟨rfl, rfl⟩ | ⟨g, rfl, h4, h5⟩⟩ := h
  · exact ⟨rfl, h2, h3, h1, .inl rfl⟩
  · exact h5.inU h1 h2 h3
theorem OU.mono {base' : Nat} (h : OU w base av cv ps) (hb : base' ≤ base) : OU w base' av cv ps := by
  obtain ⟨h1, h2, h3, h4 | ⟨g, h4, h5, h6⟩⟩ := h
  · exact ⟨h1, h2, h3, .inl h4⟩
  · exact ⟨h1, h2, h3, .inr ⟨g, h4, by omega, h6⟩⟩
theorem OU.later (h : OU w base av cv ps) (k : Below w.heap.size w w') : OU w' base av cv ps := by
  obtain ⟨h1, h2, h3, h4 | ⟨g, h4, h5, h6⟩⟩ := h
  · exact ⟨h1, h2, h3, .inl h4⟩
  · exact ⟨h1, h2, h3, .inr ⟨g, h4, h5, h6.old k⟩⟩
theorem OU.alloc (h : OU w base av cv ps) (o : Obj) : OU (w.alloc o) base av cv ps := h.later ((Below.refl _ _).alloc (Nat.le_refl _) o)
theorem OU.drew (h : OU w base av cv ps) : OU w.drew base av cv ps := h
theorem OU.kept {row : Option Nat} (h : OU w base av cv ps) (g : w.grownBy w' row) (hne : ∀ q, av = some q → some q.block ≠ row) : OU w' base av cv ps := by
  obtain ⟨h1, h2, h3, h4 | ⟨c, h4, h5, h6⟩⟩ := h
  · exact ⟨h1, h2, h3, .inl h4⟩
  · exact ⟨h1, h2, h3, .inr ⟨c, h4, h5, h6.kept g (hne _ h4)⟩⟩
theorem OU.lt (h : OU w base av cv ps) : ∀ q, av = some q → q.block < w.heap.size := by
  intro q e
  obtain ⟨h1, h2, h3, ⟨rfl, _⟩ | ⟨c, rfl, h5, h6⟩⟩ := h
  · cases e
  · cases e; exact h6.1
theorem OU.ge (h : OU w base av cv ps) : ∀ q, av = some q → base ≤ q.block := by
  intro q e
  obtain ⟨h1, h2, h3, ⟨rfl, _⟩ | ⟨c, rfl, h5, h6⟩⟩ := h
  · cases e
  · cases e; exact h5
theorem OU.sep (h : OU w base av cv ps) {a : Option Addr} (hc : ∀ q, a = some q → q.block < base) : ∀ q, a = some q → some q.block ≠ ownB av := by
  intro q e e2
  cases av with
  | none => cases e2
  | some p => have := h.ge p rfl; have := hc q e; simp [ownB] at e2; omega
theorem OU.sep' (h : OU w base av cv ps) {a : Option Addr} (hc : ∀ q, a = some q → q.block < base) : ∀ q, av = some q → some q.block ≠ ownB a := by
  intro q e e2
  have := h.ge q e
  cases a with
  | none => cases e2
  | some p => have := hc p rfl; simp [ownB] at e2; omega
end
theorem Below.markedU {n : Nat} {w0 w w' : World} {base cv : Nat} {av : Option Addr} {ps : List Int} (hb : Below n w0 w) (h : OU w base av cv ps) (g : w.grownBy w' (ownB av)) (hn : n ≤ base) (h0 : n ≤ w.heap.size) : Below n w0 w' :=
  hb.grown g h0 (fun k e => by
    cases av with
    | none => cases e
    | some q => have := h.ge q rfl; simp [ownB] at e; omega)
theorem lEqUO (av av' : Option Addr) (cv cv' base base' : Nat) (xs : List Int) (w : World) (h : OU w base av cv xs) (h' : OU w base' av' cv' xs) :
    Calls Tryd.prog 8 #[.slice av xs.length cv, .slice av' xs.length cv'] w fun e w' => e = .returned (.bool true) ∧ Below w.heap.size w w' :=
  lEqUs av av' xs.length cv cv' xs w h.inU h'.inU
theorem lMarkUO (base : Nat) (av : Option Addr) (cv : Nat) (xs : List Int) (k : Int) (w : World) (h : OU w base av cv xs) (hl : xs.length ≤ 1048576) (k0 : 0 ≤ k) (k1 : k ≤ 16777216) :
    Calls Tryd.prog 9 #[.slice av xs.length cv, .int .i64 k] w fun e w' => e = .returned (.int .i64 (k + xs.length)) ∧ OU w' base av cv (imarks k xs.length) ∧ w.grownBy w' (ownB av) := by
  obtain ⟨h1, h2, h3, ⟨rfl, rfl⟩ | ⟨g, rfl, h4, h5⟩⟩ := h
  · refine (lMarkNoneU none cv k w).mono ?_
    rintro e w' ⟨rfl, rfl⟩
    exact ⟨by simp, ⟨ufits_nil, h2, h3, .inl ⟨rfl, rfl⟩⟩, World.grownBy.refl _ _⟩
  · refine (lMarkRowU g cv xs k w h5 hl k0 k1).mono ?_
    rintro e w' ⟨he, hr, hg⟩
    exact ⟨he, ⟨imarks_fitsU k0 k1 hl, by rw [imarks_length]; exact h2, h3, .inr ⟨g, rfl, h4, hr⟩⟩, hg⟩
theorem OU.ne_old {w : World} {base cv : Nat} {av : Option Addr} {ps : List Int} (h : OU w base av cv ps) {c : Nat} (hc : c < base) : some c ≠ ownB av := by
  intro e
  cases av with
  | none => cases e
  | some p => have := h.ge p rfl; simp [ownB] at e; omega
end Go.Proofs.YtekbhkklaogmnaaDoor

/- The patterns of a box's ends: by the specification and by the program. Condition: 2^20 pairs at most. -/
namespace Go.Proofs.YtekbhkklaogmnaaDoor
open Go.RowKit
set_option linter.unusedVariables false
set_option maxRecDepth 100000

end Go.Proofs.YtekbhkklaogmnaaDoor

/- The patterns of a box's ends, by the specification. Condition: 2^20 pairs at most. -/
namespace Go.Proofs.YtekbhkklaogmnaaDoor
open Go.RowKit
set_option linter.unusedVariables false
set_option maxRecDepth 100000

end Go.Proofs.YtekbhkklaogmnaaDoor

/- Lists of numbers without sign as a law is handed them, and its copies of them. No condition. -/
namespace Go.Proofs.YtekbhkklaogmnaaDoor
open Go.ChangeShapes Go.WideShapes Go.ChangeAt Go.RowKit
set_option linter.unusedVariables false
set_option maxRecDepth 100000

theorem URow.made (w : World) (n : Nat) (t : TypeId) : URow (w.alloc (.cells (madeCells #[.int .u64 0] (n * 1)) t)) w.heap.size (List.replicate n 0) := by
  refine ⟨by simp, fun i hi => ?_⟩
  rw [List.length_replicate] at hi
  have eg : (List.replicate n (0 : Int)).getD i 0 = 0 := by simp [List.getD_eq_getElem?_getD, hi]
  rw [eg]
  have e0 : (madeCells #[Value.int IntKind.u64 0] (n * 1))[i]? = some (.int .u64 0) := by
    simp [madeCells, show i < n by omega, Nat.mod_one]
  exact ⟨by simpa using e0, by simp⟩

theorem infoU64 : (Tryd.prog.info? 37).map (fun i => (i.zero, i.size, i.bytes)) = some (some (.int .u64 0), 1, 8) := by kernel_rfl
theorem mkUs (w : World) (n : Nat) (hn : n ≤ 1048577) : (Instr.makeSlice 22 (.int .i64 (n : Int)) (.int .i64 (n : Int))).run Tryd.prog w = .ok (.slice (some ⟨w.heap.size, 0, none⟩) n n) (w.alloc (.cells (madeCells #[.int .u64 0] (n * 1)) 37)) := by
  obtain ⟨i, h1, h2, h3, h4⟩ := info_parts infoU64
  have h := run_make (P := Tryd.prog) w 22 37 i _ Tryd.underlying22 h1 h2 .i64 .i64 n n (by omega) (by omega) (by rw [h4]; omega) (by omega)
  rw [h3] at h
  exact h

set_option maxHeartbeats 1000000 in
theorem lToUs (a : Option Addr) (len cap : Nat) (xs : List Int) (w : World) (hR : InU w a len cap xs) (hl : len ≤ 1048576) :
    Calls Tryd.prog 5 #[.slice a len cap] w fun e w' => (e = .returned (.slice (some ⟨w.heap.size, 0, none⟩) len len) ∧ URow w' w.heap.size xs) ∧ Below w.heap.size w w' := by
  have hmk := mkUs w len (by omega)
  have hr0 := URow.made w len 37
  have hb0 : Below w.heap.size w (w.alloc (.cells (madeCells #[.int .u64 0] (len * 1)) 37)) := (Below.refl _ w).alloc (Nat.le_refl _) _
  generalize w.alloc (.cells (madeCells #[.int .u64 0] (len * 1)) 37) = w0 at *
  have hp := hR.1
  go_enter Tryd.func5, Tryd.ntmps5
  go_wp2
  go_loopw [4] (fun a wr => ∃ (k : Nat) (qs : List Int), k ≤ len ∧ a = .int .i64 k ∧ IUpto k qs xs ∧ URow wr w.heap.size qs ∧ Below w.heap.size w wr) (fun b _ => len - (intOf b).toNat)
  case atStart => exact ⟨0, _, by omega, rfl, IUpto.zero (by simp [hp]), hr0, hb0⟩
  case round =>
    obtain ⟨k, qs, hk, rfl, hu, hr, hb⟩ := hrel
    by_cases hlt : k < len
    · obtain ⟨b, off, x, rfl, hbl, hx, -, c0⟩ := (hR.old hb).at hlt
      obtain ⟨x', -, d0, d2⟩ := hr.at (k := k) (by rw [hu.1]; omega)
      go_wp2
      go_roundw
      case rel =>
        refine ⟨k + 1, _, by omega, by go_num, hu.step (by omega), ?_, ?_⟩
        · rw [hx]; exact hr.set k (by rw [hu.1]; omega) x
        · exact hb.setCell (p := ⟨w.heap.size, k, none⟩) (Nat.le_refl _) _
      case measure => simp [intOf]; omega
    · obtain rfl : k = len := by omega
      go_wp2
      go_ret
      subst hp
      exact ⟨⟨rfl, by rw [← hu.all]; exact hr⟩, hb⟩
section
variable {H : Type} {enc : TypeId × Value → H} {w : World} {base : Nat}
set_option maxRecDepth 100000 in
theorem open_u64S {r : Reach} {b0 : Nat} {v : Value} {d : DataW H} {p : List MemPlace} (hv : Value.okWide Tryd.prog w r b0 22 v) (h : DataW.Trod enc Tryd.prog w base (fun _ => true) true 22 v d p) :
    ∃ (a : Option Addr) (len cap : Nat) (xs : List Int), v = .slice a len cap ∧ InU w a len cap xs := by
  obtain ⟨a, len, cap, rfl⟩ := okWide_slice Tryd.underlying22 hv
  obtain ⟨fuel, hf⟩ := h
  rcases open_ints Tryd.underlying22 Tryd.underlying37 (by kernel_rfl) hf with ⟨hcs, _⟩ | ⟨x, l, c, zs, hcs, _, hl, hm, hz, _, hcell, hwz⟩
  · simp [Value.cells] at hcs
    obtain ⟨rfl, rfl, rfl⟩ := hcs
    exact ⟨none, 0, 0, [], rfl, rfl, Nat.le_refl _, Nat.zero_le _, fun x hx => absurd hx (by simp), .inl rfl⟩
  · simp [Value.cells] at hcs
    obtain ⟨rfl, rfl, rfl⟩ := hcs
    have hzl : zs.length = cap := by simpa using hz
    refine ⟨some x, len, cap, zs.take len, rfl, by simp; omega, hl, hm, ?_, ?_⟩
    · intro z hzz
      exact bounds_u64 (hwz z (List.mem_of_mem_take hzz))
    by_cases h0 : len = 0
    · exact .inl h0
    obtain ⟨b, off, spot⟩ := x
    have hc := hcell 0 (by omega)
    have hspot : spot = none := by simpa [Addr.add] using World.cell?_spot hc
    subst hspot
    have hb := World.block_lt_of_cell? w _ hc
    refine .inr ⟨b, off, rfl, by simpa [Addr.add] using hb, fun i hi => ?_⟩
    have hci := hcell i (by omega)
    have e : (⟨b, off, none⟩ : Addr).add i = ⟨b, off + i, none⟩ := by
      by_cases h : i = 0
      · subst h; simp [Addr.add]
      · simp [Addr.add, h]
    rw [e] at hci
    have eg : (zs.take len).getD i 0 = zs.getD i 0 := by simp [List.getD_eq_getElem?_getD, hi]
    rw [eg]
    exact hci
end
theorem toUsO (a : Option Addr) (cap : Nat) (xs : List Int) (w : World) (hR : InU w a xs.length cap xs) (hl : xs.length ≤ 1048576) :
    Calls Tryd.prog 5 #[.slice a xs.length cap] w fun e w' => (∃ av cv, e = .returned (.slice av xs.length cv) ∧ OU w' w.heap.size av cv xs) ∧ Below w.heap.size w w' := by
  refine (lToUs a _ cap xs w hR hl).mono ?_
  rintro e w' ⟨⟨he, hr⟩, h⟩
  exact ⟨⟨_, _, he, hR.2.2.2.1, Nat.le_refl _, Nat.le_trans hR.2.1 hR.2.2.1, .inr ⟨_, rfl, Nat.le_refl _, hr⟩⟩, h⟩
theorem InU.kept' {w w' : World} {a : Option Addr} {len cap : Nat} {xs : List Int} {row : Option Nat} (h : InU w a len cap xs) (g : w.grownBy w' row) (hne : 0 < len → ∀ q, a = some q → some q.block ≠ row) : InU w' a len cap xs := h.kept g hne
end Go.Proofs.YtekbhkklaogmnaaDoor
