/- Lists of numbers without sign: in memory of their own, held against each other, marked. No condition. -/
import Derived.Test.YtmofapcoaolndaaEY
import Derived.Test.YtmofapcoaolndaaW4
import Derived.Deep.AppendLies
import Derived.Deep.RegionHeld3
namespace Go.Proofs.Ytmofapcoaolndaa
open Go.RowKit
set_option linter.unusedVariables false

/-- numbers in a block of their own -/
def URow (w : World) (b : Nat) (xs : List Int) : Prop :=
  b < w.heap.size ∧ ∀ i, i < xs.length → w.cell? ⟨b, i, none⟩ = some (.int .u64 (xs.getD i 0)) ∧ w.frozen? ⟨b, i, none⟩ = false
def UFits (xs : List Int) : Prop := ∀ x ∈ xs, 0 ≤ x ∧ x ≤ 18446744073709551615
/-- numbers that lie somewhere -/
def InU (w : World) (a : Option Addr) (len cap : Nat) (xs : List Int) : Prop :=
  xs.length = len ∧ len ≤ cap ∧ cap ≤ maxLen ∧ UFits xs ∧
  (len = 0 ∨ ∃ b off : Nat, a = some ⟨b, off, none⟩ ∧ b < w.heap.size ∧ ∀ i, i < len → w.cell? ⟨b, off + i, none⟩ = some (.int .u64 (xs.getD i 0)))
theorem InU.old {w w' : World} {a : Option Addr} {len cap : Nat} {xs : List Int} (h : InU w a len cap xs) (b : Below w.heap.size w w') : InU w' a len cap xs := by
  obtain ⟨h1, h2, h3, h4, h5⟩ := h
  refine ⟨h1, h2, h3, h4, ?_⟩
  rcases h5 with h5 | ⟨bb, off, q1, q2, q3⟩
  · exact .inl h5
  · exact .inr ⟨bb, off, q1, Nat.lt_of_lt_of_le q2 b.size, fun i hi => (b.cell (p := ⟨bb, off + i, none⟩) q2).trans (q3 i hi)⟩
theorem InU.alloc {w : World} {a : Option Addr} {len cap : Nat} {xs : List Int} (h : InU w a len cap xs) (o : Obj) : InU (w.alloc o) a len cap xs := h.old ((Below.refl _ _).alloc (Nat.le_refl _) o)
theorem InU.drew {w : World} {a : Option Addr} {len cap : Nat} {xs : List Int} (h : InU w a len cap xs) : InU w.drew a len cap xs := h
theorem InU.at {w : World} {a : Option Addr} {len cap : Nat} {xs : List Int} (h : InU w a len cap xs) {k : Nat} (hk : k < len) : ∃ (b off : Nat) (x : Int), a = some ⟨b, off, none⟩ ∧ b < w.heap.size ∧ xs.getD k 0 = x ∧ (0 ≤ x ∧ x ≤ 18446744073709551615) ∧ w.cell? ⟨b, off + k, none⟩ = some (.int .u64 x) := by
  rcases h.2.2.2.2 with h0 | ⟨b, off, e, hb, hc⟩
  · omega
  · exact ⟨b, off, _, e, hb, rfl, h.2.2.2.1 _ (getD_mem (by rw [h.1]; exact hk)), hc k hk⟩
theorem InU.kept {w w' : World} {a : Option Addr} {len cap : Nat} {xs : List Int} {row : Option Nat} (h : InU w a len cap xs) (g : w.grownBy w' row) (hne : 0 < len → ∀ q, a = some q → some q.block ≠ row) : InU w' a len cap xs := by
  obtain ⟨h1, h2, h3, h4, h5⟩ := h
  refine ⟨h1, h2, h3, h4, ?_⟩
  by_cases h0 : len = 0
  · exact .inl h0
  rcases h5 with h5 | ⟨b, off, q1, q2, q3⟩
  · exact .inl h5
  · refine .inr ⟨b, off, q1, Nat.lt_of_lt_of_le q2 g.size, fun i hi => ?_⟩
    have e := g.block b q2 (hne (by omega) _ q1)
    exact (World.cell?_of_block (a := ⟨b, off + i, none⟩) e).trans (q3 i hi)
theorem InU.far {w : World} {a : Option Addr} {len cap : Nat} {xs : List Int} (h : InU w a len cap xs) : 0 < len → ∀ q, a = some q → q.block < w.heap.size := by
  intro h0 q e
  rcases h.2.2.2.2 with h5 | ⟨b, off, q1, q2, -⟩
  · omega
  · rw [q1] at e; cases e; exact q2
theorem InU.len {w : World} {a : Option Addr} {len cap : Nat} {xs : List Int} (h : InU w a len cap xs) : len ≤ 9223372036854775807 := by
  have := Nat.le_trans h.2.1 h.2.2.1
  unfold maxLen at this
  omega
theorem URow.old {w w' : World} {b : Nat} {xs : List Int} (h : URow w b xs) (k : Below w.heap.size w w') : URow w' b xs :=
  ⟨Nat.lt_of_lt_of_le h.1 k.size, fun i hi => ⟨(k.cell (p := ⟨b, i, none⟩) h.1).trans (h.2 i hi).1, (k.frozen (p := ⟨b, i, none⟩) h.1).trans (h.2 i hi).2⟩⟩
theorem URow.inU {w : World} {b cap : Nat} {xs : List Int} (h : URow w b xs) (f : UFits xs) (h1 : xs.length ≤ cap) (h2 : cap ≤ maxLen) : InU w (some ⟨b, 0, none⟩) xs.length cap xs :=
  ⟨rfl, h1, h2, f, .inr ⟨b, 0, rfl, h.1, fun i hi => by rw [Nat.zero_add]; exact (h.2 i hi).1⟩⟩
theorem URow.at {w : World} {b : Nat} {xs : List Int} (h : URow w b xs) {k : Nat} (hk : k < xs.length) : ∃ x : Int, xs.getD k 0 = x ∧ w.cell? ⟨b, k, none⟩ = some (.int .u64 x) ∧ w.frozen? ⟨b, k, none⟩ = false := ⟨_, rfl, (h.2 k hk).1, (h.2 k hk).2⟩
theorem URow.set {w : World} {b : Nat} {xs : List Int} (h : URow w b xs) (k : Nat) (hk : k < xs.length) (x : Int) : URow (w.setCell ⟨b, k, none⟩ (.int .u64 x)) b (xs.set k x) := by
  refine ⟨by simpa [World.setCell] using h.1, fun i hi => ?_⟩
  rw [List.length_set] at hi
  obtain ⟨h1, h3⟩ := h.2 i hi
  by_cases e : i = k
  · subst e
    have eg : (xs.set i x).getD i 0 = x := by simp [List.getD_eq_getElem?_getD, hk]
    rw [eg]
    exact ⟨World.cell?_setCell_same _ _ _ h1, by simpa using h3⟩
  · have eg : (xs.set k x).getD i 0 = xs.getD i 0 := by simp [List.getD_eq_getElem?_getD, Ne.symm e]
    rw [eg]
    refine ⟨?_, by simpa using h3⟩
    rw [World.cell?_setCell_other _ _ _ _ (by intro h; injection h with _ h2; omega)]; exact h1
theorem URow.kept {w w' : World} {c : Nat} {xs : List Int} {row : Option Nat} (h : URow w c xs) (g : w.grownBy w' row) (hne : some c ≠ row) : URow w' c xs := by
  refine ⟨Nat.lt_of_lt_of_le h.1 g.size, fun i hi => ?_⟩
  have e := g.block c h.1 hne
  exact ⟨(World.cell?_of_block (a := ⟨c, i, none⟩) e).trans (h.2 i hi).1, (World.frozen?_of_block (a := ⟨c, i, none⟩) e).trans (h.2 i hi).2⟩
theorem imarks_fitsU {k : Int} {n : Nat} (h0 : 0 ≤ k) (h1 : k ≤ 16777216) (hn : n ≤ 1048576) : UFits (imarks k n) := by
  intro p hp
  unfold imarks at hp
  obtain ⟨i, hi, rfl⟩ := List.mem_map.1 hp
  have := List.mem_range.1 hi
  omega
set_option maxHeartbeats 2000000 in
theorem lEqUs (a a' : Option Addr) (len cap cap' : Nat) (xs : List Int) (w : World) (hR : InU w a len cap xs) (hR' : InU w a' len cap' xs) :
    Calls Try.prog 18 #[.slice a len cap, .slice a' len cap'] w fun e w' => e = .returned (.bool true) ∧ Below w.heap.size w w' := by
  have hlen := hR.len
  go_enter Try.func18, Try.ntmps18
  go_wp2
  go_loopw [5] (fun a wr => ∃ k : Nat, k ≤ len ∧ a = .int .i64 k ∧ Below w.heap.size w wr) (fun b _ => len - (intOf b).toNat)
  case atStart => exact ⟨0, by omega, rfl, (by repeat (first | exact Below.refl _ _ | refine Below.drew ?_ | refine old_alloc ?_ _ | refine old_trans ?_ (by assumption)))⟩
  case round =>
    obtain ⟨k, hk, rfl, hb⟩ := hrel
    by_cases hlt : k < len
    · obtain ⟨b, off, x, rfl, hbl, hx, -, c0⟩ := (hR.old hb).at hlt
      obtain ⟨b', off', x', rfl, hbl', hx', -, c0'⟩ := (hR'.old hb).at hlt
      obtain rfl := hx.symm.trans hx'
      go_wp2_with fail
      go_region
      all_goals
        go_wp2
        go_roundw
        case rel => exact ⟨k + 1, by omega, by go_num, hb.drew⟩
        case measure => simp [intOf]; omega
    · obtain rfl : k = len := by omega
      go_wp2
      go_ret
      exact ⟨rfl, hb⟩
set_option maxHeartbeats 2000000 in
theorem lMarkRowU (b cap : Nat) (xs : List Int) (k : Int) (w : World) (hr : URow w b xs) (hl : xs.length ≤ 1048576) (k0 : 0 ≤ k) (k1 : k ≤ 16777216) :
    Calls Try.prog 19 #[.slice (some ⟨b, 0, none⟩) xs.length cap, .int .i64 k] w fun e w' => e = .returned (.int .i64 (k + xs.length)) ∧ URow w' b (imarks k xs.length) ∧ w.grownBy w' (some b) := by
  go_enter Try.func19, Try.ntmps19
  go_wp2
  go_loopw [1, 5] (fun s i wr => ∃ (j : Nat) (qs : List Int), j ≤ xs.length ∧ s = .int .i64 (k + j) ∧ i = .int .i64 j ∧ IUpto j qs (imarks k xs.length) ∧ URow wr b qs ∧ w.grownBy wr (some b)) (fun _ b _ => xs.length - (intOf b).toNat)
  case atStart => exact ⟨0, xs, by omega, by simp, rfl, IUpto.zero (by rw [imarks_length]), hr, World.grownBy.refl _ _⟩
  case round =>
    obtain ⟨j, qs, hj, rfl, rfl, hu, hrr, hg⟩ := hrel
    have hql : qs.length = xs.length := by rw [hu.1, imarks_length]
    by_cases hlt : j < xs.length
    · obtain ⟨x', -, d0, d2⟩ := hrr.at (k := j) (by omega)
      have hst := hrr.set j (by omega) (k + j)
      have hup := hu.step (by rw [imarks_length]; omega)
      rw [imarks_getD k hlt] at hup
      go_wp2
      go_roundw
      case rel => exact ⟨j + 1, _, by omega, by go_num, by go_num, hup, hst, grown_set hg _ _⟩
      case measure => simp [intOf]; omega
    · obtain rfl : j = xs.length := by omega
      have hq : qs = imarks k xs.length := IUpto.all (by rw [imarks_length]; exact hu)
      subst hq
      go_wp2
      go_ret
      exact ⟨rfl, hrr, hg⟩
set_option maxHeartbeats 1000000 in
theorem lMarkNoneU (a : Option Addr) (cap : Nat) (k : Int) (w : World) :
    Calls Try.prog 19 #[.slice a 0 cap, .int .i64 k] w fun e w' => e = .returned (.int .i64 k) ∧ w' = w := by
  go_enter Try.func19, Try.ntmps19
  go_wp2
  go_loopw [1, 5] (fun s i wr => s = .int .i64 k ∧ i = .int .i64 0 ∧ wr = w) (fun _ _ _ => 0)
  case atStart => exact ⟨rfl, rfl, rfl⟩
  case round =>
    obtain ⟨rfl, rfl, rfl⟩ := hrel
    go_wp2
    go_ret
    exact ⟨rfl, rfl⟩
set_option maxHeartbeats 2000000 in
theorem lHeldUs (a : Option Addr) (cap n : Nat) (k : Int) (w : World) (hR : InU w a n cap (imarks k n)) (hl : n ≤ 1048576) (k0 : 0 ≤ k) (k1 : k ≤ 16777216) :
    Calls Try.prog 20 #[.slice a n cap, .int .i64 k] w fun e w' => e = .returned (.int .i64 (k + n)) ∧ w' = w := by
  go_enter Try.func20, Try.ntmps20
  go_wp2
  go_loopw [1, 5] (fun s i wr => ∃ j : Nat, j ≤ n ∧ s = .int .i64 (k + j) ∧ i = .int .i64 j ∧ wr = w) (fun _ b _ => n - (intOf b).toNat)
  case atStart => exact ⟨0, by omega, by simp, rfl, rfl⟩
  case round =>
    obtain ⟨j, hj, rfl, rfl, rfl⟩ := hrel
    by_cases hlt : j < n
    · obtain ⟨b, off, x, rfl, hbl, hx, -, c0⟩ := hR.at hlt
      rw [imarks_getD k hlt] at hx
      subst hx
      go_wp2
      go_roundw
      case rel => exact ⟨j + 1, by omega, by go_num, by go_num, trivial⟩
      case measure => simp [intOf]; omega
    · obtain rfl : j = n := by omega
      go_wp2
      go_ret
      exact ⟨rfl, rfl⟩

def uints (xs : List Int) : List Value := xs.map (fun x => .int .u64 x)
theorem uints_length (xs : List Int) : (uints xs).length = xs.length * 1 := by simp [uints]
theorem uints_snoc (xs : List Int) (x : Int) : uints (xs ++ [x]) = uints xs ++ [.int .u64 x] := by simp [uints]
theorem uints_get {xs : List Int} {i : Nat} (h : i < xs.length) : (uints xs)[i]? = some (.int .u64 (xs.getD i 0)) := by
  simp [uints, List.getD_eq_getElem?_getD, h]
/-- a list that is being made -/
def UGrows (w : World) (base : Nat) (v : Value) (xs : List Int) : Prop := w.ownsRow base 57 1 v xs.length (uints xs)
theorem UGrows.nil (w : World) (base : Nat) : UGrows w base (.slice none 0 0) [] := World.ownsRow_nil w base _ _
theorem UGrows.kept {w w' : World} {base : Nat} {v : Value} {xs : List Int} {row : Option Nat} (h : UGrows w base v xs) (g : w.grownBy w' row) (hne : ∀ b, row = some b → b < base) : UGrows w' base v xs := by
  refine World.ownsRow.kept h g ?_
  cases hv : v.ownBlock with
  | none => exact .inl rfl
  | some k =>
    refine .inr (fun e => ?_)
    have := hne k e.symm
    have := (World.ownsRow.lt h k hv).1
    omega
theorem UGrows.later {w w' : World} {base : Nat} {v : Value} {xs : List Int} (h : UGrows w base v xs) (g : Below w.heap.size w w') : UGrows w' base v xs := h.kept (grown_below g) (by simp)
theorem UGrows.alloc {w : World} {base : Nat} {v : Value} {xs : List Int} (h : UGrows w base v xs) (o : Obj) : UGrows (w.alloc o) base v xs := h.later ((Below.refl _ _).alloc (Nat.le_refl _) o)
theorem UGrows.far {w : World} {base : Nat} {v : Value} {xs : List Int} (h : UGrows w base v xs) {c : Nat} (hc : c < base) : some c ≠ v.ownBlock := fun e => by have := (World.ownsRow.lt h c e.symm).1; omega
theorem UGrows.row {w : World} {base : Nat} {v : Value} {xs : List Int} (h : UGrows w base v xs) (hp : 0 < xs.length) : ∃ g cap, v = .slice (some ⟨g, 0, none⟩) xs.length cap ∧ base ≤ g ∧ xs.length ≤ cap ∧ cap ≤ maxLen ∧ URow w g xs := by
  have h' := h
  rcases h.2 with ⟨_, h0⟩ | ⟨g, cap, cur, rfl, hb, hg, h1, h2, -, -⟩
  · omega
  refine ⟨g, cap, rfl, hb, h1, h2, (Array.getElem?_eq_some_iff.1 hg).1, fun i hi => ?_⟩
  exact ⟨(World.ownsRow.cellAt h' i (by omega)).trans (uints_get hi), World.ownsRow.frozenAt h' _⟩
theorem UGrows.none {w : World} {base : Nat} {v : Value} (h : UGrows w base v []) : ∃ av cv, v = .slice av 0 cv := by
  rcases h.2 with ⟨h0, _⟩ | ⟨g, cap, cur, rfl, hb, hg, h1, h2, -, -⟩
  · exact ⟨_, _, h0⟩
  · exact ⟨_, _, rfl⟩
/-- numbers in memory of their own, at or beyond base; or none -/
def OU (w : World) (base : Nat) (av : Option Addr) (cv : Nat) (xs : List Int) : Prop :=
  UFits xs ∧ xs.length ≤ cv ∧ cv ≤ maxLen ∧ ((av = none ∧ xs = []) ∨ ∃ g, av = some ⟨g, 0, none⟩ ∧ base ≤ g ∧ URow w g xs)
theorem ufits_nil : UFits [] := fun p hp => absurd hp (by simp)
theorem OU.none (w : World) (base : Nat) : OU w base none 0 [] := ⟨ufits_nil, Nat.le_refl _, Nat.zero_le _, .inl ⟨rfl, rfl⟩⟩
theorem UGrows.ou {w : World} {base : Nat} {v : Value} {xs : List Int} (h : UGrows w base v xs) (f : UFits xs) : ∃ av cv, v = .slice av xs.length cv ∧ OU w base av cv xs := by
  by_cases h0 : 0 < xs.length
  · obtain ⟨g, cap, rfl, h1, h2, h3, h4⟩ := h.row h0
    exact ⟨_, _, rfl, f, h2, h3, .inr ⟨g, rfl, h1, h4⟩⟩
  · obtain rfl : xs = [] := List.length_eq_zero_iff.1 (by omega)
    rcases h.2 with ⟨h1, _⟩ | ⟨g, cap, cur, rfl, hb, hg, h1, h2, -, -⟩
    · exact ⟨_, _, h1, ufits_nil, Nat.le_refl _, Nat.zero_le _, .inl ⟨rfl, rfl⟩⟩
    · exact ⟨_, _, rfl, ufits_nil, h1, h2, .inr ⟨g, rfl, hb, (Array.getElem?_eq_some_iff.1 hg).1, fun i hi => absurd hi (by simp)⟩⟩
section
variable {w w' : World} {base cv : Nat} {av : Option Addr} {ps : List Int}
theorem OU.inU (h : OU w base av cv ps) : InU w av ps.length cv ps := by
  obtain ⟨h1, h2, h3, ⟨rfl, rfl⟩ | ⟨g, rfl, h4, h5⟩⟩ := h
  · exact ⟨rfl, h2, h3, h1, .inl rfl⟩
  · exact h5.inU h1 h2 h3
theorem OU.mono {base' : Nat} (h : OU w base av cv ps) (hb : base' ≤ base) : OU w base' av cv ps := by
  obtain ⟨h1, h2, h3, h4 | ⟨g, h4, h5, h6⟩⟩ := h
  · exact ⟨h1, h2, h3, .inl h4⟩
  · exact ⟨h1, h2, h3, .inr ⟨g, h4, by omega, h6⟩⟩
theorem OU.later (h : OU w base av cv ps) (k : Below w.heap.size w w') : OU w' base av cv ps := by
  obtain ⟨h1, h2, h3, h4 | ⟨g, h4, h5, h6⟩⟩ := h
  · exact ⟨h1, h2, h3, .inl h4⟩
  · exact ⟨h1, h2, h3, .inr ⟨g, h4, h5, h6.old k⟩⟩
theorem OU.alloc (h : OU w base av cv ps) (o : Obj) : OU (w.alloc o) base av cv ps := h.later ((Below.refl _ _).alloc (Nat.le_refl _) o)
theorem OU.drew (h : OU w base av cv ps) : OU w.drew base av cv ps := h
theorem OU.kept {row : Option Nat} (h : OU w base av cv ps) (g : w.grownBy w' row) (hne : ∀ q, av = some q → some q.block ≠ row) : OU w' base av cv ps := by
  obtain ⟨h1, h2, h3, h4 | ⟨c, h4, h5, h6⟩⟩ := h
  · exact ⟨h1, h2, h3, .inl h4⟩
  · exact ⟨h1, h2, h3, .inr ⟨c, h4, h5, h6.kept g (hne _ h4)⟩⟩
theorem OU.lt (h : OU w base av cv ps) : ∀ q, av = some q → q.block < w.heap.size := by
  intro q e
  obtain ⟨h1, h2, h3, ⟨rfl, _⟩ | ⟨c, rfl, h5, h6⟩⟩ := h
  · cases e
  · cases e; exact h6.1
theorem OU.ge (h : OU w base av cv ps) : ∀ q, av = some q → base ≤ q.block := by
  intro q e
  obtain ⟨h1, h2, h3, ⟨rfl, _⟩ | ⟨c, rfl, h5, h6⟩⟩ := h
  · cases e
  · cases e; exact h5
theorem OU.sep (h : OU w base av cv ps) {a : Option Addr} (hc : ∀ q, a = some q → q.block < base) : ∀ q, a = some q → some q.block ≠ ownB av := by
  intro q e e2
  cases av with
  | none => cases e2
  | some p => have := h.ge p rfl; have := hc q e; simp [ownB] at e2; omega
theorem OU.sep' (h : OU w base av cv ps) {a : Option Addr} (hc : ∀ q, a = some q → q.block < base) : ∀ q, av = some q → some q.block ≠ ownB a := by
  intro q e e2
  have := h.ge q e
  cases a with
  | none => cases e2
  | some p => have := hc p rfl; simp [ownB] at e2; omega
end
theorem Below.markedU {n : Nat} {w0 w w' : World} {base cv : Nat} {av : Option Addr} {ps : List Int} (hb : Below n w0 w) (h : OU w base av cv ps) (g : w.grownBy w' (ownB av)) (hn : n ≤ base) (h0 : n ≤ w.heap.size) : Below n w0 w' :=
  hb.grown g h0 (fun k e => by
    cases av with
    | none => cases e
    | some q => have := h.ge q rfl; simp [ownB] at e; omega)
theorem lEqUO (av av' : Option Addr) (cv cv' base base' : Nat) (xs : List Int) (w : World) (h : OU w base av cv xs) (h' : OU w base' av' cv' xs) :
    Calls Try.prog 18 #[.slice av xs.length cv, .slice av' xs.length cv'] w fun e w' => e = .returned (.bool true) ∧ Below w.heap.size w w' :=
  lEqUs av av' xs.length cv cv' xs w h.inU h'.inU
theorem lMarkUO (base : Nat) (av : Option Addr) (cv : Nat) (xs : List Int) (k : Int) (w : World) (h : OU w base av cv xs) (hl : xs.length ≤ 1048576) (k0 : 0 ≤ k) (k1 : k ≤ 16777216) :
    Calls Try.prog 19 #[.slice av xs.length cv, .int .i64 k] w fun e w' => e = .returned (.int .i64 (k + xs.length)) ∧ OU w' base av cv (imarks k xs.length) ∧ w.grownBy w' (ownB av) := by
  obtain ⟨h1, h2, h3, ⟨rfl, rfl⟩ | ⟨g, rfl, h4, h5⟩⟩ := h
  · refine (lMarkNoneU none cv k w).mono ?_
    rintro e w' ⟨rfl, rfl⟩
    exact ⟨by simp, ⟨ufits_nil, h2, h3, .inl ⟨rfl, rfl⟩⟩, World.grownBy.refl _ _⟩
  · refine (lMarkRowU g cv xs k w h5 hl k0 k1).mono ?_
    rintro e w' ⟨he, hr, hg⟩
    exact ⟨he, ⟨imarks_fitsU k0 k1 hl, by rw [imarks_length]; exact h2, h3, .inr ⟨g, rfl, h4, hr⟩⟩, hg⟩
theorem lHeldUO (base : Nat) (av : Option Addr) (cv n : Nat) (k : Int) (w : World) (h : OU w base av cv (imarks k n)) (hl : n ≤ 1048576) (k0 : 0 ≤ k) (k1 : k ≤ 16777216) :
    Calls Try.prog 20 #[.slice av n cv, .int .i64 k] w fun e w' => e = .returned (.int .i64 (k + n)) ∧ Below w.heap.size w w' := by
  have hi := h.inU
  rw [imarks_length] at hi
  refine (lHeldUs av cv n k w hi hl k0 k1).mono ?_
  rintro e w' ⟨rfl, rfl⟩
  exact ⟨rfl, Below.refl _ _⟩
theorem UGrows.young {w : World} {base : Nat} {v : Value} {xs : List Int} (h : UGrows w base v xs) {c : Nat} (hc : w.heap.size ≤ c) : some c ≠ v.ownBlock := fun e => by have := (World.ownsRow.lt h c e.symm).2; omega
theorem OU.ne_old {w : World} {base cv : Nat} {av : Option Addr} {ps : List Int} (h : OU w base av cv ps) {c : Nat} (hc : c < base) : some c ≠ ownB av := by
  intro e
  cases av with
  | none => cases e
  | some p => have := h.ge p rfl; simp [ownB] at e; omega
end Go.Proofs.Ytmofapcoaolndaa

/- The patterns of a box's ends: by the specification and by the program. Condition: 2^20 pairs at most. -/
namespace Go.Proofs.Ytmofapcoaolndaa
open Go.RowKit
set_option linter.unusedVariables false

def bbI (wd n : Int) : Int :=
  if wd = 32 then (if -2139095040 ≤ n ∧ n ≤ 2139095040 then bitsI 2147483648 n else 0)
  else if wd = 64 then (if -9218868437227405312 ≤ n ∧ n ≤ 9218868437227405312 then bitsI 9223372036854775808 n else 0) else 0
theorem bbI_fit (wd n : Int) : 0 ≤ bbI wd n ∧ bbI wd n ≤ 18446744073709551615 := by
  unfold bbI bitsI
  repeat' split
  all_goals omega
theorem iBB (wd n : Int) (w : World) : Calls Try.prog 39 #[.int .i64 wd, .int .i64 n] w fun e w' => e = .returned (.int .u64 (bbI wd n)) ∧ Below w.heap.size w w' := by
  unfold bbI
  by_cases h32 : wd = 32
  · subst h32
    rw [if_pos rfl]
    by_cases h : -2139095040 ≤ n ∧ n ≤ 2139095040
    · rw [if_pos h]; exact iBitBits_32 n h.1 h.2 w
    · rw [if_neg h]; exact iBitBits_32_out n h w
  · rw [if_neg h32]
    by_cases h64 : wd = 64
    · subst h64
      rw [if_pos rfl]
      by_cases h : -9218868437227405312 ≤ n ∧ n ≤ 9218868437227405312
      · rw [if_pos h]; exact iBitBits_64 n h.1 h.2 w
      · rw [if_neg h]; exact iBitBits_64_out n h w
    · rw [if_neg h64]; exact iBitBits_no wd n h32 h64 w
theorem sBB (wd n : Int) (w : World) : Calls Try.prog 35 #[.int .i64 wd, .int .i64 n] w fun e w' => e = .returned (.int .u64 (bbI wd n)) ∧ Below w.heap.size w w' := by
  unfold bbI
  by_cases h32 : wd = 32
  · subst h32
    rw [if_pos rfl]
    by_cases h : -2139095040 ≤ n ∧ n ≤ 2139095040
    · rw [if_pos h]; exact sBitBits_32 n h.1 h.2 w
    · rw [if_neg h]; exact sBitBits_32_out n h w
  · rw [if_neg h32]
    by_cases h64 : wd = 64
    · subst h64
      rw [if_pos rfl]
      by_cases h : -9218868437227405312 ≤ n ∧ n ≤ 9218868437227405312
      · rw [if_pos h]; exact sBitBits_64 n h.1 h.2 w
      · rw [if_neg h]; exact sBitBits_64_out n h w
    · rw [if_neg h64]; exact sBitBits_no wd n h32 h64 w
def bitsL (wd : Int) (ps : List (Int × Int)) : List Int := ps.flatMap (fun p => [bbI wd p.1, bbI wd p.2])
theorem bitsL_len (wd : Int) (ps : List (Int × Int)) : (bitsL wd ps).length = 2 * ps.length := by
  induction ps with
  | nil => rfl
  | cons p ps ih => simp only [bitsL, List.flatMap_cons, List.length_append, List.length_cons, List.length_nil] at ih ⊢; omega
theorem bitsL_fits (wd : Int) (ps : List (Int × Int)) : UFits (bitsL wd ps) := by
  intro x hx
  simp only [bitsL, List.mem_flatMap] at hx
  obtain ⟨p, -, hp⟩ := hx
  simp at hp
  rcases hp with rfl | rfl <;> exact bbI_fit _ _
theorem bitsL_take {wd : Int} {ps : List (Int × Int)} {k : Nat} {x y : Int} (hk : k < ps.length) (hx : ps.getD k (0, 0) = (x, y)) : bitsL wd (ps.take (k + 1)) = bitsL wd (ps.take k) ++ [bbI wd x, bbI wd y] := by
  rw [List.take_add_one]
  have e : ps[k]? = some (x, y) := by
    rw [List.getD_eq_getElem?_getD, List.getElem?_eq_getElem hk] at hx
    rw [List.getElem?_eq_getElem hk]
    exact congrArg some hx
  rw [e]
  simp [bitsL]
def resU (r : Bool) (xs : List Int) : List Int := if r then xs else []
theorem resU_len {r : Bool} {xs : List Int} {n : Nat} (h : xs.length ≤ n) : (resU r xs).length ≤ n := by
  cases r
  · exact Nat.zero_le _
  · exact h
theorem cells_twoU (w : World) (b : Nat) (hb : b = w.heap.size) (x y : Value) (t : TypeId) : ∀ j u, [x, y][j]? = some u → (w.alloc (.cells #[x, y] t)).cell? ((⟨b, 0, none⟩ : Addr).add j) = some u := by
  subst hb
  intro j u h
  match j, h with
  | 0, h => simp at h; subst h; simp [Addr.add]
  | 1, h => simp at h; subst h; simp [Addr.add]
  | j + 2, h => simp at h
theorem infoU : (Try.prog.info? 57).map (fun i => (i.zero, i.size, i.bytes)) = some (some (.int .u64 0), 1, 8) := by kernel_rfl
theorem uints_two (xs : List Int) (x y : Int) : uints (xs ++ [x, y]) = uints xs ++ [.int .u64 x, .int .u64 y] := by simp [uints]
theorem Below.low {n m : Nat} {w w' : World} (h : Below m w w') (hn : n ≤ m) : Below n w w' := ⟨h.os, h.tape, h.output, h.size, fun k hk => h.block k (by omega)⟩
set_option maxRecDepth 100000 in
set_option maxHeartbeats 4000000 in
theorem iBits1 (wd x y : Int) (B : Nat) (v : Value) (xs : List Int) (base : Nat) (w : World) (hc : w.cell? ⟨B, 0, none⟩ = some (.int .i64 wd)) (hBl : B < base) (hbase : base ≤ w.heap.size) (G : UGrows w base v xs) (hn : xs.length ≤ 2097152) :
    Calls Try.prog 38 #[v, .agg #[.int .i64 x, .int .i64 y], .pointer (some ⟨B, 0, none⟩)] w fun e w' => (∃ v', e = .returned v' ∧ UGrows w' base v' (xs ++ [bbI wd x, bbI wd y])) ∧ Below base w w' := by
  obtain ⟨i0, hi, hz0, hz1, hz2⟩ := info_parts infoU
  have K := Cel2.made w _ rfl (.int .i64 x) (.int .i64 y) 38
  have hBe : Below w.heap.size w (w.alloc (.cells #[.int .i64 x, .int .i64 y] 38)) := old_alloc (Below.refl _ _) _
  have hc0 := (hBe.cell (p := ⟨B, 0, none⟩) (by show B < _; omega)).trans hc
  go_enter Try.func38, Try.ntmps38
  generalize hW : w.alloc (.cells #[.int .i64 x, .int .i64 y] 38) = V0 at *
  obtain ⟨k0, k1, k2, k3, k4⟩ := id K
  go_wp2_with fail
  go_region_held3 (fun w' => w'.cell? ⟨B, 0, none⟩ = some (.int .i64 wd) ∧ w'.cell? ⟨w.heap.size, 0, none⟩ = some (.int .i64 x) ∧ w'.cell? ⟨w.heap.size, 1, none⟩ = some (.int .i64 y)) (go_keep) (first | (go_at_call_of 39 (Value.int .i64 x); refine (iBB wd x _).mono ?_; rintro e w1 ⟨rfl, hb1⟩; have K1 := K.drew.later hb1; have hB1 := old_trans (Below.drew hBe) hb1; have c1 := (hB1.cell (p := ⟨B, 0, none⟩) (by show B < _; omega)).trans hc; obtain ⟨q0, q1, q2, q3, q4⟩ := id K1) | (go_at_call_of 39 (Value.int .i64 y); refine (iBB wd y _).mono ?_; rintro e w2 ⟨rfl, hb2⟩; have K2 := K1.later hb2; have hB2 := old_trans hB1 hb2; have c2 := (hB2.cell (p := ⟨B, 0, none⟩) (by show B < _; omega)).trans hc; obtain ⟨r0, r1, r2, r3, r4⟩ := id K2) | (refine step_append_lies _ (by rfl) _ _ 41 (by rfl) base 57 i0 _ 1 8 Try.underlying41 hi hz0 hz1 hz2 rfl (by decide) v xs.length (uints xs) (by rfl) ((G.later hB2).alloc _) ⟨_, 0, none⟩ 2 2 [.int .u64 (bbI wd x), .int .u64 (bbI wd y)] (by rfl) rfl (cells_twoU _ _ rfl _ _ _) (by simp [Value.oneCell']) (by decide) (by unfold maxLen; omega) (by omega) (by have := hB2.size; simp; omega) _ rfl ?_; intro g' cap' w5 hown hgrow hat5 hlt5; have hKa := (K2.alloc (.cells #[.int .u64 (bbI wd x), .int .u64 (bbI wd y)] 57)); have z0 := hgrow.cell (a := ⟨w.heap.size, 0, none⟩) hKa.1 (G.young (Nat.le_refl _)); have z1 := hgrow.cell (a := ⟨w.heap.size, 1, none⟩) hKa.2.1 (G.young (Nat.le_refl _)); have z2 := hgrow.cell (a := ⟨B, 0, none⟩) (cell_al' c2 (.cells #[.int .u64 (bbI wd x), .int .u64 (bbI wd y)] 57)) (G.far hBl)))
  all_goals
    have hBa := old_alloc hB2 (.cells #[.int .u64 (bbI wd x), .int .u64 (bbI wd y)] 57)
    have hBb : Below base w w5 := (Below.low hBa hbase).grown hgrow (by have := hBa.size; omega) (fun q e => by have := (World.ownsRow.lt G q e).1; omega)
    have hGn : UGrows w5 base (.slice (some ⟨g', 0, none⟩) (xs.length + 2) cap') (xs ++ [bbI wd x, bbI wd y]) := by
      unfold UGrows
      rw [uints_two, List.length_append]
      exact hown
    go_wp2
    go_ret
    exact ⟨⟨_, rfl, hGn⟩, hBb⟩
set_option maxRecDepth 100000 in
set_option maxHeartbeats 4000000 in
theorem iFoldB (wd : Int) (a : Option Addr) (len cap : Nat) (ps : List (Int × Int)) (B : Nat) (w : World) (hR : InRow w a len cap ps) (hc : w.cell? ⟨B, 0, none⟩ = some (.int .i64 wd)) (hBl : B < w.heap.size) (hl : len ≤ 1048576) :
    Calls Try.prog 37 #[.slice a len cap, .slice none 0 0, .func (.func 38) #[] #[.pointer (some ⟨B, 0, none⟩)]] w fun e w' => (∃ v', e = .returned v' ∧ UGrows w' w.heap.size v' (bitsL wd ps)) ∧ Below w.heap.size w w' := by
  have hp := hR.1
  have hE : ∀ args w, (callFunc 38 args).run Try.prog w = .ok (.enter 38 args) w := fun _ _ => by kernel_rfl
  have hfull : Hid (bitsL wd (ps.take len) = bitsL wd ps) := by show _ = _; rw [List.take_of_length_le (by omega)]
  go_enter Try.func37, Try.ntmps37
  go_wp2
  go_loopw [7, 12] (fun s i wr => ∃ k : Nat, k ≤ len ∧ UGrows wr w.heap.size s (bitsL wd (ps.take k)) ∧ i = .int .i64 k ∧ Below w.heap.size w wr) (fun _ b _ => len - (intOf b).toNat)
  case atStart => exact ⟨0, by omega, UGrows.nil _ _, rfl, (by repeat (first | exact Below.refl _ _ | refine Below.drew ?_ | refine old_alloc ?_ _ | refine old_trans ?_ (by assumption)))⟩
  case round =>
    obtain ⟨k, hk, G, rfl, hb⟩ := hrel
    by_cases hlt : k < len
    · obtain ⟨b, off, x, y, rfl, hbl, hx, hq, c0, c1⟩ := (hR.old hb).at hlt
      have H := hd (iBits1 wd x y B _ (bitsL wd (ps.take k)) w.heap.size wr ((hb.cell (p := ⟨B, 0, none⟩) hBl).trans hc) hBl hb.size G (by rw [bitsL_len, List.length_take]; omega))
      have hst : Hid (bitsL wd (ps.take (k + 1)) = bitsL wd (ps.take k) ++ [bbI wd x, bbI wd y]) := bitsL_take (by omega) hx
      go_wp2_with fail
      refine H.out.mono ?_
      rintro e w1 ⟨⟨v', rfl, G'⟩, hb1⟩
      go_wp2
      go_roundw
      case rel => exact ⟨k + 1, by omega, by rw [hst.out]; exact G', by go_num, hb.trans hb1⟩
      case measure => simp [intOf]; omega
    · obtain rfl : k = len := by omega
      rw [hfull.out] at G
      have hni : ¬ ((k : Int) < (k : Int)) := by omega
      go_wp2
      go_ret
      exact ⟨⟨_, rfl, G⟩, hb⟩
theorem iBoxBitsO (wd : Int) (a : Option Addr) (cap : Nat) (ps : List (Int × Int)) (w : World) (hR : InRow w a ps.length cap ps) (hl : ps.length ≤ 1048576) :
    Calls Try.prog 17 #[.int .i64 wd, .agg #[.slice a ps.length cap]] w fun e w' => (∃ av cv, e = .returned (.slice av (resU (okRow wd ps) (bitsL wd ps)).length cv) ∧ OU w' w.heap.size av cv (resU (okRow wd ps) (bitsL wd ps))) ∧ Below w.heap.size w w' := by
  have hB : Below w.heap.size w ((w.alloc (.cells #[.int .i64 wd] 3)).alloc (.cells #[.slice a ps.length cap] 28)) := (by repeat (first | exact Below.refl _ _ | refine Below.drew ?_ | refine old_alloc ?_ _ | refine old_trans ?_ (by assumption)))
  have C : Cel1 ((w.alloc (.cells #[.int .i64 wd] 3)).alloc (.cells #[.slice a ps.length cap] 28)) w.heap.size (.int .i64 wd) := (Cel1.made w _ rfl _ _).alloc _
  have K : Cel1 ((w.alloc (.cells #[.int .i64 wd] 3)).alloc (.cells #[.slice a ps.length cap] 28)) (w.heap.size + 1) (.slice a ps.length cap) := Cel1.made _ _ (by simp) _ _
  have OK := hd (fun w' (h : Below w.heap.size w w') => iBoxOk wd a ps.length cap ps w' (hR.old h))
  cases hok : okRow wd ps
  · rw [hok] at OK
    show Calls _ _ _ _ fun e w' => (∃ av cv, e = .returned (.slice av 0 cv) ∧ OU w' w.heap.size av cv []) ∧ Below w.heap.size w w'
    clear hok
    go_enter Try.func17, Try.ntmps17
    generalize hW : (w.alloc (.cells #[.int .i64 wd] 3)).alloc (.cells #[.slice a ps.length cap] 28) = V0 at *
    obtain ⟨c0, c1, c2⟩ := id C
    obtain ⟨k0, k1, k2⟩ := id K
    go_wp2_with fail
    refine (OK.out _ hB).mono ?_
    rintro e w1 ⟨rfl, hb1⟩
    go_wp2
    go_ret
    exact ⟨⟨_, _, rfl, OU.none _ _⟩, old_trans hB hb1⟩
  · rw [hok] at OK
    show Calls _ _ _ _ fun e w' => (∃ av cv, e = .returned (.slice av (bitsL wd ps).length cv) ∧ OU w' w.heap.size av cv (bitsL wd ps)) ∧ Below w.heap.size w w'
    clear hok
    go_enter Try.func17, Try.ntmps17
    generalize hW : (w.alloc (.cells #[.int .i64 wd] 3)).alloc (.cells #[.slice a ps.length cap] 28) = V0 at *
    obtain ⟨c0, c1, c2⟩ := id C
    obtain ⟨k0, k1, k2⟩ := id K
    go_wp2_with fail
    refine (OK.out _ hB).mono ?_
    rintro e w1 ⟨rfl, hb1⟩
    replace hB := old_trans hB hb1
    replace C := C.later hb1
    replace K := K.later hb1
    clear c0 c1 c2 k0 k1 k2
    obtain ⟨c0, c1, c2⟩ := id C
    obtain ⟨k0, k1, k2⟩ := id K
    have FD := hd (iFoldB wd a ps.length cap ps w.heap.size w1 (hR.old hB) c0 c2 hl)
    go_wp2_with fail
    refine FD.out.mono ?_
    rintro e w2 ⟨⟨v', rfl, G⟩, hb2⟩
    obtain ⟨av, cv, rfl, O⟩ := G.ou (bitsL_fits _ _)
    go_wp2
    go_ret
    exact ⟨⟨_, _, rfl, O.mono hB.size⟩, old_trans hB hb2⟩
end Go.Proofs.Ytmofapcoaolndaa

/- The patterns of a box's ends, by the specification. Condition: 2^20 pairs at most. -/
namespace Go.Proofs.Ytmofapcoaolndaa
open Go.RowKit
set_option linter.unusedVariables false

set_option maxRecDepth 100000 in
set_option maxHeartbeats 8000000 in
theorem sBoxBitsO (wd : Int) (a : Option Addr) (cap : Nat) (ps : List (Int × Int)) (w : World) (hR : InRow w a ps.length cap ps) (hl : ps.length ≤ 1048576) :
    Calls Try.prog 16 #[.int .i64 wd, .agg #[.slice a ps.length cap]] w fun e w' => (∃ av cv, e = .returned (.slice av (resU (okRow wd ps) (bitsL wd ps)).length cv) ∧ OU w' w.heap.size av cv (resU (okRow wd ps) (bitsL wd ps))) ∧ Below w.heap.size w w' := by
  obtain ⟨i0, hi, hz0, hz1, hz2⟩ := info_parts infoU
  have hB : Below w.heap.size w (w.alloc (.cells #[.slice a ps.length cap] 28)) := (by repeat (first | exact Below.refl _ _ | refine Below.drew ?_ | refine old_alloc ?_ _ | refine old_trans ?_ (by assumption)))
  have K : Cel1 (w.alloc (.cells #[.slice a ps.length cap] 28)) w.heap.size (.slice a ps.length cap) := Cel1.made w _ rfl _ _
  have OK := hd (fun w' (h : Below w.heap.size w w') => sBoxOk wd a ps.length cap ps w' (hR.old h))
  cases hok : okRow wd ps
  · rw [hok] at OK
    show Calls _ _ _ _ fun e w' => (∃ av cv, e = .returned (.slice av 0 cv) ∧ OU w' w.heap.size av cv []) ∧ Below w.heap.size w w'
    clear hok
    go_enter Try.func16, Try.ntmps16
    generalize hW : w.alloc (.cells #[.slice a ps.length cap] 28) = V0 at *
    obtain ⟨k0, k1, k2⟩ := id K
    go_wp2_with fail
    refine (OK.out _ hB).mono ?_
    rintro e w1 ⟨rfl, hb1⟩
    go_wp2
    go_ret
    exact ⟨⟨_, _, rfl, OU.none _ _⟩, old_trans hB hb1⟩
  rw [hok] at OK
  show Calls _ _ _ _ fun e w' => (∃ av cv, e = .returned (.slice av (bitsL wd ps).length cv) ∧ OU w' w.heap.size av cv (bitsL wd ps)) ∧ Below w.heap.size w w'
  clear hok
  have hfull : Hid (bitsL wd (ps.take ps.length) = bitsL wd ps) := by show _ = _; rw [List.take_length]
  go_enter Try.func16, Try.ntmps16
  generalize hW : w.alloc (.cells #[.slice a ps.length cap] 28) = V0 at *
  obtain ⟨k0, k1, k2⟩ := id K
  go_wp2_with fail
  refine (OK.out _ hB).mono ?_
  rintro e w1 ⟨rfl, hb1⟩
  replace hB := old_trans hB hb1
  replace K := K.later hb1
  clear k0 k1 k2 hb1 hW
  go_wp2_with fail
  go_loopw [5, 6] (fun s i wr => ∃ k : Nat, k ≤ ps.length ∧ UGrows wr w1.heap.size s (bitsL wd (ps.take k)) ∧ i = .int .i64 k ∧ Below w1.heap.size w1 wr) (fun _ b _ => ps.length - (intOf b).toNat)
  case atStart => exact ⟨0, by omega, UGrows.nil _ _, rfl, Below.refl _ _⟩
  case round =>
    obtain ⟨k, hk, G, rfl, hb⟩ := hrel
    have Kr := K.later hb
    obtain ⟨k0, k1, k2⟩ := id Kr
    have hKl := K.2.2
    have hBw := old_trans hB hb
    by_cases hlt : k < ps.length
    · obtain ⟨b, off, x, y, rfl, hbl, hx, hq, c0, c1⟩ := (hR.old hBw).at hlt
      have hst : Hid (bitsL wd (ps.take (k + 1)) = bitsL wd (ps.take k) ++ [bbI wd x, bbI wd y]) := bitsL_take hlt hx
      have hbw : b < w1.heap.size := by
        obtain ⟨b', off', x', y', e', hb', -⟩ := (hR.old hB).at hlt
        injection e' with e'; injection e' with e1 e2; subst e1; exact hb'
      have hxl : (bitsL wd (ps.take k)).length ≤ 2097152 := by rw [bitsL_len, List.length_take]; omega
      have hkI : (k : Int) < (ps.length : Int) := by omega
      have hkI0 : (0 : Int) ≤ (k : Int) := by omega
      have hsz := hb.size
      generalize bitsL wd (ps.take k) = xs at *
      have SB1 := hd (sBB wd x)
      have SB2 := hd (sBB wd y)
      have ca := hb.cell (p := ⟨w.heap.size, 0, none⟩) hKl
      generalize bbI wd x = A1 at *
      generalize bbI wd y = A2 at *
      obtain ⟨v, hv⟩ : ∃ v, v = u5 := ⟨_, rfl⟩
      subst hv
      go_wp2_with fail
      go_region_held3 (fun w' => w'.cell? ⟨w.heap.size, 0, none⟩ = some (.slice (some ⟨b, off, none⟩) ps.length cap) ∧ w'.cell? ⟨b, off + k * 2, none⟩ = some (.int .i64 x) ∧ w'.cell? ⟨b, off + k * 2 + 1, none⟩ = some (.int .i64 y)) (go_keep) (first | (go_at_call_of 35 (Value.int .i64 x); refine (SB1.out _).mono ?_; rintro e w2 ⟨rfl, hb2⟩; have K2 := Kr.drew.later hb2; have hB2 := old_trans (Below.drew hb) hb2; have R2 := (hR.old (old_trans (Below.drew hBw) hb2)); have k20 := K2.1; have d0 := (hb2.cell (p := ⟨b, off + k * 2, none⟩) hbl).trans c0; have d1 := (hb2.cell (p := ⟨b, off + k * 2 + 1, none⟩) hbl).trans c1) | (go_at_call_of 35 (Value.int .i64 y); refine (SB2.out _).mono ?_; rintro e w3 ⟨rfl, hb3⟩; have K3 := K2.later hb3; have hB3 := old_trans hB2 hb3; have k30 := K3.1; have s23 := hb2.size; have f0 := (hb3.cell (p := ⟨b, off + k * 2, none⟩) (Nat.lt_of_lt_of_le hbl s23)).trans d0; have f1 := (hb3.cell (p := ⟨b, off + k * 2 + 1, none⟩) (Nat.lt_of_lt_of_le hbl s23)).trans d1) | (refine step_append_lies _ (by rfl) _ _ 41 (by rfl) w1.heap.size 57 i0 _ 1 8 Try.underlying41 hi hz0 hz1 hz2 rfl (by decide) v xs.length (uints xs) (by rfl) (((G.later (Below.drew (Below.refl _ _))).later hb2).later hb3 |>.alloc _) ⟨_, 0, none⟩ 2 2 [.int .u64 A1, .int .u64 A2] (by rfl) rfl (cells_twoU _ _ rfl _ _ _) (by simp [Value.oneCell']) (by decide) (by unfold maxLen; omega) (by omega) (by have := hB3.size; simp; omega) _ rfl ?_; intro g' cap' w5 hown hgrow hat5 hlt5; have z0 := hgrow.cell (a := ⟨w.heap.size, 0, none⟩) (cell_al' k30 (.cells #[.int .u64 A1, .int .u64 A2] 57)) (G.far hKl); have z1 := hgrow.cell (a := ⟨b, off + k * 2, none⟩) (cell_al' f0 (.cells #[.int .u64 A1, .int .u64 A2] 57)) (G.far hbw); have z2 := hgrow.cell (a := ⟨b, off + k * 2 + 1, none⟩) (cell_al' f1 (.cells #[.int .u64 A1, .int .u64 A2] 57)) (G.far hbw)))
      all_goals
        have hBa := old_alloc hB3 (.cells #[.int .u64 A1, .int .u64 A2] 57)
        have hBb : Below w1.heap.size w1 w5 := hBa.grown hgrow hBa.size (fun q e => by have := (World.ownsRow.lt G q e).1; omega)
        have hGn : UGrows w5 w1.heap.size (.slice (some ⟨g', 0, none⟩) (xs.length + 2) cap') (xs ++ [A1, A2]) := by
          unfold UGrows
          rw [uints_two, List.length_append]
          exact hown
        go_wp2
        go_roundw
        case rel => exact ⟨k + 1, by omega, by rw [hst.out]; exact hGn, by go_num, hBb⟩
        case measure => simp [intOf]; omega
    · obtain rfl : k = ps.length := by omega
      rw [hfull.out] at G
      have hni : ¬ ((ps.length : Int) < (ps.length : Int)) := by omega
      obtain ⟨av, cv, rfl, O⟩ := G.ou (bitsL_fits _ _)
      go_wp2
      go_ret
      exact ⟨⟨_, _, rfl, O.mono hB.size⟩, hBw⟩
end Go.Proofs.Ytmofapcoaolndaa
