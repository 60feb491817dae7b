/- Lists of numbers without sign: in memory of their own, held against each other, marked. No condition. -/
import Derived.Test.YtekbhkklaogmnaaDoorEY
import Derived.Test.YtekbhkklaogmnaaDoorW4
import Derived.Deep.AppendLies
import Derived.Deep.RegionHeld3
namespace Go.Proofs.YtekbhkklaogmnaaDoor
open Go.RowKit
set_option linter.unusedVariables false
set_option maxRecDepth 100000

/-- numbers in a block of their own -/
def URow (w : World) (b : Nat) (xs : List Int) : Prop :=
  b < w.heap.size ∧ ∀ i, i < xs.length → w.cell? ⟨b, i, none⟩ = some (.int .u64 (xs.getD i 0)) ∧ w.frozen? ⟨b, i, none⟩ = false
def UFits (xs : List Int) : Prop := ∀ x ∈ xs, 0 ≤ x ∧ x ≤ 18446744073709551615
/-- numbers that lie somewhere -/
def InU (w : World) (a : Option Addr) (len cap : Nat) (xs : List Int) : Prop :=
  xs.length = len ∧ len ≤ cap ∧ cap ≤ maxLen ∧ UFits xs ∧
  (len = 0 ∨ ∃ b off : Nat, a = some ⟨b, off, none⟩ ∧ b < w.heap.size ∧ ∀ i, i < len → w.cell? ⟨b, off + i, none⟩ = some (.int .u64 (xs.getD i 0)))
theorem InU.old {w w' : World} {a : Option Addr} {len cap : Nat} {xs : List Int} (h : InU w a len cap xs) (b : Below w.heap.size w w') : InU w' a len cap xs := by
  obtain ⟨h1, h2, h3, h4, h5⟩ := h
  refine ⟨h1, h2, h3, h4, ?_⟩
  rcases h5 with h5 | ⟨bb, off, q1, q2, q3⟩
  · exact .inl h5
  · exact .inr ⟨bb, off, q1, Nat.lt_of_lt_of_le q2 b.size, fun i hi => (b.cell (p := ⟨bb, off + i, none⟩) q2).trans (q3 i hi)⟩
theorem InU.alloc {w : World} {a : Option Addr} {len cap : Nat} {xs : List Int} (h : InU w a len cap xs) (o : Obj) : InU (w.alloc o) a len cap xs := h.old ((Below.refl _ _).alloc (Nat.le_refl _) o)
theorem InU.drew {w : World} {a : Option Addr} {len cap : Nat} {xs : List Int} (h : InU w a len cap xs) : InU w.drew a len cap xs := h
theorem InU.at {w : World} {a : Option Addr} {len cap : Nat} {xs : List Int} (h : InU w a len cap xs) {k : Nat} (hk : k < len) : ∃ (b off : Nat) (x : Int), a = some ⟨b, off, none⟩ ∧ b < w.heap.size ∧ xs.getD k 0 = x ∧ (0 ≤ x ∧ x ≤ 18446744073709551615) ∧ w.cell? ⟨b, off + k, none⟩ = some (.int .u64 x) := by
  rcases h.2.2.2.2 with h0 | ⟨b, off, e, hb, hc⟩
  · omega
  · exact ⟨b, off, _, e, hb, rfl, h.2.2.2.1 _ (getD_mem (by rw [h.1]; exact hk)), hc k hk⟩
theorem InU.kept {w w' : World} {a : Option Addr} {len cap : Nat} {xs : List Int} {row : Option Nat} (h : InU w a len cap xs) (g : w.grownBy w' row) (hne : 0 < len → ∀ q, a = some q → some q.block ≠ row) : InU w' a len cap xs := by
  obtain ⟨h1, h2, h3, h4, h5⟩ := h
  refine ⟨h1, h2, h3, h4, ?_⟩
  by_cases h0 : len = 0
  · exact .inl h0
  rcases h5 with h5 | ⟨b, off, q1, q2, q3⟩
  · exact .inl h5
  · refine .inr ⟨b, off, q1, Nat.lt_of_lt_of_le q2 g.size, fun i hi => ?_⟩
    have e := g.block b q2 (hne (by omega) _ q1)
    exact (World.cell?_of_block (a := ⟨b, off + i, none⟩) e).trans (q3 i hi)
theorem InU.far {w : World} {a : Option Addr} {len cap : Nat} {xs : List Int} (h : InU w a len cap xs) : 0 < len → ∀ q, a = some q → q.block < w.heap.size := by
  intro h0 q e
  rcases h.2.2.2.2 with h5 | ⟨b, off, q1, q2, -⟩
  · omega
  · rw [q1] at e; cases e; exact q2
theorem InU.len {w : World} {a : Option Addr} {len cap : Nat} {xs : List Int} (h : InU w a len cap xs) : len ≤ 9223372036854775807 := by
  have := Nat.le_trans h.2.1 h.2.2.1
  unfold maxLen at this
  omega
theorem URow.old {w w' : World} {b : Nat} {xs : List Int} (h : URow w b xs) (k : Below w.heap.size w w') : URow w' b xs :=
  ⟨Nat.lt_of_lt_of_le h.1 k.size, fun i hi => ⟨(k.cell (p := ⟨b, i, none⟩) h.1).trans (h.2 i hi).1, (k.frozen (p := ⟨b, i, none⟩) h.1).trans (h.2 i hi).2⟩⟩
theorem URow.inU {w : World} {b cap : Nat} {xs : List Int} (h : URow w b xs) (f : UFits xs) (h1 : xs.length ≤ cap) (h2 : cap ≤ maxLen) : InU w (some ⟨b, 0, none⟩) xs.length cap xs :=
  ⟨rfl, h1, h2, f, .inr ⟨b, 0, rfl, h.1, fun i hi => by rw [Nat.zero_add]; exact (h.2 i hi).1⟩⟩
theorem URow.at {w : World} {b : Nat} {xs : List Int} (h : URow w b xs) {k : Nat} (hk : k < xs.length) : ∃ x : Int, xs.getD k 0 = x ∧ w.cell? ⟨b, k, none⟩ = some (.int .u64 x) ∧ w.frozen? ⟨b, k, none⟩ = false := ⟨_, rfl, (h.2 k hk).1, (h.2 k hk).2⟩
theorem URow.set {w : World} {b : Nat} {xs : List Int} (h : URow w b xs) (k : Nat) (hk : k < xs.length) (x : Int) : URow (w.setCell ⟨b, k, none⟩ (.int .u64 x)) b (xs.set k x) := by
  refine ⟨by simpa [World.setCell] using h.1, fun i hi => ?_⟩
  rw [List.length_set] at hi
  obtain ⟨h1, h3⟩ := h.2 i hi
  by_cases e : i = k
  · subst e
    have eg : (xs.set i x).getD i 0 = x := by simp [List.getD_eq_getElem?_getD, hk]
    rw [eg]
    exact ⟨World.cell?_setCell_same _ _ _ h1, by simpa using h3⟩
  · have eg : (xs.set k x).getD i 0 = xs.getD i 0 := by simp [List.getD_eq_getElem?_getD, Ne.symm e]
    rw [eg]
    refine ⟨?_, by simpa using h3⟩
    rw [World.cell?_setCell_other _ _ _ _ (by intro h; injection h with _ h2; omega)]; exact h1
theorem URow.kept {w w' : World} {c : Nat} {xs : List Int} {row : Option Nat} (h : URow w c xs) (g : w.grownBy w' row) (hne : some c ≠ row) : URow w' c xs := by
  refine ⟨Nat.lt_of_lt_of_le h.1 g.size, fun i hi => ?_⟩
  have e := g.block c h.1 hne
  exact ⟨(World.cell?_of_block (a := ⟨c, i, none⟩) e).trans (h.2 i hi).1, (World.frozen?_of_block (a := ⟨c, i, none⟩) e).trans (h.2 i hi).2⟩
theorem imarks_fitsU {k : Int} {n : Nat} (h0 : 0 ≤ k) (h1 : k ≤ 16777216) (hn : n ≤ 1048576) : UFits (imarks k n) := by
  intro p hp
  unfold imarks at hp
  obtain ⟨i, hi, rfl⟩ := List.mem_map.1 hp
  have := List.mem_range.1 hi
  omega
set_option maxHeartbeats 2000000 in
theorem lEqUs (a a' : Option Addr) (len cap cap' : Nat) (xs : List Int) (w : World) (hR : InU w a len cap xs) (hR' : InU w a' len cap' xs) :
    Calls Tryd.prog 8 #[.slice a len cap, .slice a' len cap'] w fun e w' => e = .returned (.bool true) ∧ Below w.heap.size w w' := by
  have hlen := hR.len
  go_enter Tryd.func8, Tryd.ntmps8
  go_wp2
  go_loopw [5] (fun a wr => ∃ k : Nat, k ≤ len ∧ a = .int .i64 k ∧ Below w.heap.size w wr) (fun b _ => len - (intOf b).toNat)
  case atStart => exact ⟨0, by omega, rfl, (by repeat (first | exact Below.refl _ _ | refine Below.drew ?_ | refine old_alloc ?_ _ | refine old_trans ?_ (by assumption)))⟩
  case round =>
    obtain ⟨k, hk, rfl, hb⟩ := hrel
    by_cases hlt : k < len
    · obtain ⟨b, off, x, rfl, hbl, hx, -, c0⟩ := (hR.old hb).at hlt
      obtain ⟨b', off', x', rfl, hbl', hx', -, c0'⟩ := (hR'.old hb).at hlt
      obtain rfl := hx.symm.trans hx'
      go_wp2_with fail
      go_region
      all_goals
        go_wp2
        go_roundw
        case rel => exact ⟨k + 1, by omega, by go_num, hb.drew⟩
        case measure => simp [intOf]; omega
    · obtain rfl : k = len := by omega
      go_wp2
      go_ret
      exact ⟨rfl, hb⟩
set_option maxHeartbeats 2000000 in
theorem lMarkRowU (b cap : Nat) (xs : List Int) (k : Int) (w : World) (hr : URow w b xs) (hl : xs.length ≤ 1048576) (k0 : 0 ≤ k) (k1 : k ≤ 16777216) :
    Calls Tryd.prog 9 #[.slice (some ⟨b, 0, none⟩) xs.length cap, .int .i64 k] w fun e w' => e = .returned (.int .i64 (k + xs.length)) ∧ URow w' b (imarks k xs.length) ∧ w.grownBy w' (some b) := by
  go_enter Tryd.func9, Tryd.ntmps9
  go_wp2
  go_loopw [1, 5] (fun s i wr => ∃ (j : Nat) (qs : List Int), j ≤ xs.length ∧ s = .int .i64 (k + j) ∧ i = .int .i64 j ∧ IUpto j qs (imarks k xs.length) ∧ URow wr b qs ∧ w.grownBy wr (some b)) (fun _ b _ => xs.length - (intOf b).toNat)
  case atStart => exact ⟨0, xs, by omega, by simp, rfl, IUpto.zero (by rw [imarks_length]), hr, World.grownBy.refl _ _⟩
  case round =>
    obtain ⟨j, qs, hj, rfl, rfl, hu, hrr, hg⟩ := hrel
    have hql : qs.length = xs.length := by rw [hu.1, imarks_length]
    by_cases hlt : j < xs.length
    · obtain ⟨x', -, d0, d2⟩ := hrr.at (k := j) (by omega)
      have hst := hrr.set j (by omega) (k + j)
      have hup := hu.step (by rw [imarks_length]; omega)
      rw [imarks_getD k hlt] at hup
      go_wp2
      go_roundw
      case rel => exact ⟨j + 1, _, by omega, by go_num, by go_num, hup, hst, grown_set hg _ _⟩
      case measure => simp [intOf]; omega
    · obtain rfl : j = xs.length := by omega
      have hq : qs = imarks k xs.length := IUpto.all (by rw [imarks_length]; exact hu)
      subst hq
      go_wp2
      go_ret
      exact ⟨rfl, hrr, hg⟩
set_option maxHeartbeats 1000000 in
theorem lMarkNoneU (a : Option Addr) (cap : Nat) (k : Int) (w : World) :
    Calls Tryd.prog 9 #[.slice a 0 cap, .int .i64 k] w fun e w' => e = .returned (.int .i64 k) ∧ w' = w := by
  go_enter Tryd.func9, Tryd.ntmps9
  go_wp2
  go_loopw [1, 5] (fun s i wr => s = .int .i64 k ∧ i = .int .i64 0 ∧ wr = w) (fun _ _ _ => 0)
  case atStart => exact ⟨rfl, rfl, rfl⟩
  case round =>
    obtain ⟨rfl, rfl, rfl⟩ := hrel
    go_wp2
    go_ret
    exact ⟨rfl, rfl⟩
def uints (xs : List Int) : List Value := xs.map (fun x => .int .u64 x)
theorem uints_length (xs : List Int) : (uints xs).length = xs.length * 1 := by simp [uints]
theorem uints_snoc (xs : List Int) (x : Int) : uints (xs ++ [x]) = uints xs ++ [.int .u64 x] := by simp [uints]
theorem uints_get {xs : List Int} {i : Nat} (h : i < xs.length) : (uints xs)[i]? = some (.int .u64 (xs.getD i 0)) := by
  simp [uints, List.getD_eq_getElem?_getD, h]
/-- a list that is being made -/
def UGrows (w : World) (base : Nat) (v : Value) (xs : List Int) : Prop := w.ownsRow base 37 1 v xs.length (uints xs)
theorem UGrows.nil (w : World) (base : Nat) : UGrows w base (.slice none 0 0) [] := World.ownsRow_nil w base _ _
theorem UGrows.kept {w w' : World} {base : Nat} {v : Value} {xs : List Int} {row : Option Nat} (h : UGrows w base v xs) (g : w.grownBy w' row) (hne : ∀ b, row = some b → b < base) : UGrows w' base v xs := by
  refine World.ownsRow.kept h g ?_
  cases hv : v.ownBlock with
  | none => exact .inl rfl
  | some k =>
    refine .inr (fun e => ?_)
    have := hne k e.symm
    have := (World.ownsRow.lt h k hv).1
    omega
theorem UGrows.later {w w' : World} {base : Nat} {v : Value} {xs : List Int} (h : UGrows w base v xs) (g : Below w.heap.size w w') : UGrows w' base v xs := h.kept (grown_below g) (by simp)
theorem UGrows.alloc {w : World} {base : Nat} {v : Value} {xs : List Int} (h : UGrows w base v xs) (o : Obj) : UGrows (w.alloc o) base v xs := h.later ((Below.refl _ _).alloc (Nat.le_refl _) o)
theorem UGrows.far {w : World} {base : Nat} {v : Value} {xs : List Int} (h : UGrows w base v xs) {c : Nat} (hc : c < base) : some c ≠ v.ownBlock := fun e => by have := (World.ownsRow.lt h c e.symm).1; omega
theorem UGrows.row {w : World} {base : Nat} {v : Value} {xs : List Int} (h : UGrows w base v xs) (hp : 0 < xs.length) : ∃ g cap, v = .slice (some ⟨g, 0, none⟩) xs.length cap ∧ base ≤ g ∧ xs.length ≤ cap ∧ cap ≤ maxLen ∧ URow w g xs := by
  have h' := h
  rcases h.2 with ⟨_, h0⟩ | ⟨g, cap, cur, rfl, hb, hg, h1, h2, -, -⟩
  · omega
  refine ⟨g, cap, rfl, hb, h1, h2, (Array.getElem?_eq_some_iff.1 hg).1, fun i hi => ?_⟩
  exact ⟨(World.ownsRow.cellAt h' i (by omega)).trans (uints_get hi), World.ownsRow.frozenAt h' _⟩
theorem UGrows.none {w : World} {base : Nat} {v : Value} (h : UGrows w base v []) : ∃ av cv, v = .slice av 0 cv := by
  rcases h.2 with ⟨h0, _⟩ | ⟨g, cap, cur, rfl, hb, hg, h1, h2, -, -⟩
  · exact ⟨_, _, h0⟩
  · exact ⟨_, _, rfl⟩
/-- numbers in memory of their own, at or beyond base; or none -/
def OU (w : World) (base : Nat) (av : Option Addr) (cv : Nat) (xs : List Int) : Prop :=
  UFits xs ∧ xs.length ≤ cv ∧ cv ≤ maxLen ∧ ((av = none ∧ xs = []) ∨ ∃ g, av = some ⟨g, 0, none⟩ ∧ base ≤ g ∧ URow w g xs)
theorem ufits_nil : UFits [] := fun p hp => absurd hp (by simp)
theorem OU.none (w : World) (base : Nat) : OU w base none 0 [] := ⟨ufits_nil, Nat.le_refl _, Nat.zero_le _, .inl ⟨rfl, rfl⟩⟩
theorem UGrows.ou {w : World} {base : Nat} {v : Value} {xs : List Int} (h : UGrows w base v xs) (f : UFits xs) : ∃ av cv, v = .slice av xs.length cv ∧ OU w base av cv xs := by
  by_cases h0 : 0 < xs.length
  · obtain ⟨g, cap, rfl, h1, h2, h3, h4⟩ := h.row h0
    exact ⟨_, _, rfl, f, h2, h3, .inr ⟨g, rfl, h1, h4⟩⟩
  · obtain rfl : xs = [] := List.length_eq_zero_iff.1 (by omega)
    rcases h.2 with ⟨h1, _⟩ | ⟨g, cap, cur, rfl, hb, hg, h1, h2, -, -⟩
    · exact ⟨_, _, h1, ufits_nil, Nat.le_refl _, Nat.zero_le _, .inl ⟨rfl, rfl⟩⟩
    · exact ⟨_, _, rfl, ufits_nil, h1, h2, .inr ⟨g, rfl, hb, (Array.getElem?_eq_some_iff.1 hg).1, fun i hi => absurd hi (by simp)⟩⟩
section
variable {w w' : World} {base cv : Nat} {av : Option Addr} {ps : List Int}
theorem OU.inU (h : OU w base av cv ps) : InU w av ps.length cv ps := by
  obtain ⟨h1, h2, h3, ⟨rfl, rfl⟩ | ⟨g, rfl, h4, h5⟩⟩ := h
  · exact ⟨rfl, h2, h3, h1, .inl rfl⟩
  · exact h5.inU h1 h2 h3
theorem OU.mono {base' : Nat} (h : OU w base av cv ps) (hb : base' ≤ base) : OU w base' av cv ps := by
  obtain ⟨h1, h2, h3, h4 | ⟨g, h4, h5, h6⟩⟩ := h
  · exact ⟨h1, h2, h3, .inl h4⟩
  · exact ⟨h1, h2, h3, .inr ⟨g, h4, by omega, h6⟩⟩
theorem OU.later (h : OU w base av cv ps) (k : Below w.heap.size w w') : OU w' base av cv ps := by
  obtain ⟨h1, h2, h3, h4 | ⟨g, h4, h5, h6⟩⟩ := h
  · exact ⟨h1, h2, h3, .inl h4⟩
  · exact ⟨h1, h2, h3, .inr ⟨g, h4, h5, h6.old k⟩⟩
theorem OU.alloc (h : OU w base av cv ps) (o : Obj) : OU (w.alloc o) base av cv ps := h.later ((Below.refl _ _).alloc (Nat.le_refl _) o)
theorem OU.drew (h : OU w base av cv ps) : OU w.drew base av cv ps := h
theorem OU.kept {row : Option Nat} (h : OU w base av cv ps) (g : w.grownBy w' row) (hne : ∀ q, av = some q → some q.block ≠ row) : OU w' base av cv ps := by
  obtain ⟨h1, h2, h3, h4 | ⟨c, h4, h5, h6⟩⟩ := h
  · exact ⟨h1, h2, h3, .inl h4⟩
  · exact ⟨h1, h2, h3, .inr ⟨c, h4, h5, h6.kept g (hne _ h4)⟩⟩
theorem OU.lt (h : OU w base av cv ps) : ∀ q, av = some q → q.block < w.heap.size := by
  intro q e
  obtain ⟨h1, h2, h3, ⟨rfl, _⟩ | ⟨c, rfl, h5, h6⟩⟩ := h
  · cases e
  · cases e; exact h6.1
theorem OU.ge (h : OU w base av cv ps) : ∀ q, av = some q → base ≤ q.block := by
  intro q e
  obtain ⟨h1, h2, h3, ⟨rfl, _⟩ | ⟨c, rfl, h5, h6⟩⟩ := h
  · cases e
  · cases e; exact h5
theorem OU.sep (h : OU w base av cv ps) {a : Option Addr} (hc : ∀ q, a = some q → q.block < base) : ∀ q, a = some q → some q.block ≠ ownB av := by
  intro q e e2
  cases av with
  | none => cases e2
  | some p => have := h.ge p rfl; have := hc q e; simp [ownB] at e2; omega
theorem OU.sep' (h : OU w base av cv ps) {a : Option Addr} (hc : ∀ q, a = some q → q.block < base) : ∀ q, av = some q → some q.block ≠ ownB a := by
  intro q e e2
  have := h.ge q e
  cases a with
  | none => cases e2
  | some p => have := hc p rfl; simp [ownB] at e2; omega
end
theorem Below.markedU {n : Nat} {w0 w w' : World} {base cv : Nat} {av : Option Addr} {ps : List Int} (hb : Below n w0 w) (h : OU w base av cv ps) (g : w.grownBy w' (ownB av)) (hn : n ≤ base) (h0 : n ≤ w.heap.size) : Below n w0 w' :=
  hb.grown g h0 (fun k e => by
    cases av with
    | none => cases e
    | some q => have := h.ge q rfl; simp [ownB] at e; omega)
theorem lEqUO (av av' : Option Addr) (cv cv' base base' : Nat) (xs : List Int) (w : World) (h : OU w base av cv xs) (h' : OU w base' av' cv' xs) :
    Calls Tryd.prog 8 #[.slice av xs.length cv, .slice av' xs.length cv'] w fun e w' => e = .returned (.bool true) ∧ Below w.heap.size w w' :=
  lEqUs av av' xs.length cv cv' xs w h.inU h'.inU
theorem lMarkUO (base : Nat) (av : Option Addr) (cv : Nat) (xs : List Int) (k : Int) (w : World) (h : OU w base av cv xs) (hl : xs.length ≤ 1048576) (k0 : 0 ≤ k) (k1 : k ≤ 16777216) :
    Calls Tryd.prog 9 #[.slice av xs.length cv, .int .i64 k] w fun e w' => e = .returned (.int .i64 (k + xs.length)) ∧ OU w' base av cv (imarks k xs.length) ∧ w.grownBy w' (ownB av) := by
  obtain ⟨h1, h2, h3, ⟨rfl, rfl⟩ | ⟨g, rfl, h4, h5⟩⟩ := h
  · refine (lMarkNoneU none cv k w).mono ?_
    rintro e w' ⟨rfl, rfl⟩
    exact ⟨by simp, ⟨ufits_nil, h2, h3, .inl ⟨rfl, rfl⟩⟩, World.grownBy.refl _ _⟩
  · refine (lMarkRowU g cv xs k w h5 hl k0 k1).mono ?_
    rintro e w' ⟨he, hr, hg⟩
    exact ⟨he, ⟨imarks_fitsU k0 k1 hl, by rw [imarks_length]; exact h2, h3, .inr ⟨g, rfl, h4, hr⟩⟩, hg⟩
theorem UGrows.young {w : World} {base : Nat} {v : Value} {xs : List Int} (h : UGrows w base v xs) {c : Nat} (hc : w.heap.size ≤ c) : some c ≠ v.ownBlock := fun e => by have := (World.ownsRow.lt h c e.symm).2; omega
theorem OU.ne_old {w : World} {base cv : Nat} {av : Option Addr} {ps : List Int} (h : OU w base av cv ps) {c : Nat} (hc : c < base) : some c ≠ ownB av := by
  intro e
  cases av with
  | none => cases e
  | some p => have := h.ge p rfl; simp [ownB] at e; omega
end Go.Proofs.YtekbhkklaogmnaaDoor

/- The patterns of a box's ends: by the specification and by the program. Condition: 2^20 pairs at most. -/
namespace Go.Proofs.YtekbhkklaogmnaaDoor
open Go.RowKit
set_option linter.unusedVariables false
set_option maxRecDepth 100000

def bbI (wd n : Int) : Int :=
  if wd = 32 then (if -2139095040 ≤ n ∧ n ≤ 2139095040 then bitsI 2147483648 n else 0)
  else if wd = 64 then (if -9218868437227405312 ≤ n ∧ n ≤ 9218868437227405312 then bitsI 9223372036854775808 n else 0) else 0
theorem bbI_fit (wd n : Int) : 0 ≤ bbI wd n ∧ bbI wd n ≤ 18446744073709551615 := by
  unfold bbI bitsI
  repeat' split
  all_goals omega
def bitsL (wd : Int) (ps : List (Int × Int)) : List Int := ps.flatMap (fun p => [bbI wd p.1, bbI wd p.2])
theorem bitsL_len (wd : Int) (ps : List (Int × Int)) : (bitsL wd ps).length = 2 * ps.length := by
  induction ps with
  | nil => rfl
  | cons p ps ih => simp only [bitsL, List.flatMap_cons, List.length_append, List.length_cons, List.length_nil] at ih ⊢; omega
theorem bitsL_fits (wd : Int) (ps : List (Int × Int)) : UFits (bitsL wd ps) := by
  intro x hx
  simp only [bitsL, List.mem_flatMap] at hx
  obtain ⟨p, -, hp⟩ := hx
  simp at hp
  rcases hp with rfl | rfl <;> exact bbI_fit _ _
theorem bitsL_take {wd : Int} {ps : List (Int × Int)} {k : Nat} {x y : Int} (hk : k < ps.length) (hx : ps.getD k (0, 0) = (x, y)) : bitsL wd (ps.take (k + 1)) = bitsL wd (ps.take k) ++ [bbI wd x, bbI wd y] := by
  rw [List.take_add_one]
  have e : ps[k]? = some (x, y) := by
    rw [List.getD_eq_getElem?_getD, List.getElem?_eq_getElem hk] at hx
    rw [List.getElem?_eq_getElem hk]
    exact congrArg some hx
  rw [e]
  simp [bitsL]
def resU (r : Bool) (xs : List Int) : List Int := if r then xs else []
theorem resU_len {r : Bool} {xs : List Int} {n : Nat} (h : xs.length ≤ n) : (resU r xs).length ≤ n := by
  cases r
  · exact Nat.zero_le _
  · exact h
theorem cells_twoU (w : World) (b : Nat) (hb : b = w.heap.size) (x y : Value) (t : TypeId) : ∀ j u, [x, y][j]? = some u → (w.alloc (.cells #[x, y] t)).cell? ((⟨b, 0, none⟩ : Addr).add j) = some u := by
  subst hb
  intro j u h
  match j, h with
  | 0, h => simp at h; subst h; simp [Addr.add]
  | 1, h => simp at h; subst h; simp [Addr.add]
  | j + 2, h => simp at h
theorem infoU : (Tryd.prog.info? 37).map (fun i => (i.zero, i.size, i.bytes)) = some (some (.int .u64 0), 1, 8) := by kernel_rfl
theorem uints_two (xs : List Int) (x y : Int) : uints (xs ++ [x, y]) = uints xs ++ [.int .u64 x, .int .u64 y] := by simp [uints]
theorem Below.low {n m : Nat} {w w' : World} (h : Below m w w') (hn : n ≤ m) : Below n w w' := ⟨h.os, h.tape, h.output, h.size, fun k hk => h.block k (by omega)⟩
end Go.Proofs.YtekbhkklaogmnaaDoor

/- The patterns of a box's ends, by the specification. Condition: 2^20 pairs at most. -/
namespace Go.Proofs.YtekbhkklaogmnaaDoor
open Go.RowKit
set_option linter.unusedVariables false
set_option maxRecDepth 100000

end Go.Proofs.YtekbhkklaogmnaaDoor
