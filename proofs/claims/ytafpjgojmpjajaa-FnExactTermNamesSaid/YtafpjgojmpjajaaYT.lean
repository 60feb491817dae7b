/- Lists of texts: in memory of their own, held against each other, marked. No condition but marks up to 2^25. -/
import Derived.Test.YtafpjgojmpjajaaYS
import Derived.Deep.RegionHeld3
import Derived.Test.YtafpjgojmpjajaaBA
namespace Go.Proofs.Ytafpjgojmpjajaa
open Go.RowKit
set_option linter.unusedVariables false
set_option maxRecDepth 100000

/-- texts in a block of their own -/
def TRow (w : World) (b : Nat) (xs : List ByteArray) : Prop :=
  b < w.heap.size ∧ ∀ i, i < xs.length → w.cell? ⟨b, i, none⟩ = some (.string (xs.getD i ⟨#[]⟩)) ∧ w.frozen? ⟨b, i, none⟩ = false
def TFits (xs : List ByteArray) : Prop := ∀ x ∈ xs, x.size ≤ maxLen
/-- texts that lie somewhere -/
def InT (w : World) (a : Option Addr) (len cap : Nat) (xs : List ByteArray) : Prop :=
  xs.length = len ∧ len ≤ cap ∧ cap ≤ maxLen ∧ TFits xs ∧
  (len = 0 ∨ ∃ b off : Nat, a = some ⟨b, off, none⟩ ∧ b < w.heap.size ∧ ∀ i, i < len → w.cell? ⟨b, off + i, none⟩ = some (.string (xs.getD i ⟨#[]⟩)))
theorem InT.old {w w' : World} {a : Option Addr} {len cap : Nat} {xs : List ByteArray} (h : InT w a len cap xs) (b : Below w.heap.size w w') : InT w' a len cap xs := by
  obtain ⟨h1, h2, h3, h4, h5⟩ := h
  refine ⟨h1, h2, h3, h4, ?_⟩
  rcases h5 with h5 | ⟨bb, off, q1, q2, q3⟩
  · exact .inl h5
  · exact .inr ⟨bb, off, q1, Nat.lt_of_lt_of_le q2 b.size, fun i hi => (b.cell (p := ⟨bb, off + i, none⟩) q2).trans (q3 i hi)⟩
theorem InT.alloc {w : World} {a : Option Addr} {len cap : Nat} {xs : List ByteArray} (h : InT w a len cap xs) (o : Obj) : InT (w.alloc o) a len cap xs := h.old ((Below.refl _ _).alloc (Nat.le_refl _) o)
theorem InT.drew {w : World} {a : Option Addr} {len cap : Nat} {xs : List ByteArray} (h : InT w a len cap xs) : InT w.drew a len cap xs := h
theorem tgetD_mem {xs : List ByteArray} {k : Nat} (hk : k < xs.length) : xs.getD k ⟨#[]⟩ ∈ xs := by
  have e2 : xs.getD k ⟨#[]⟩ = xs[k]'hk := by rw [List.getD_eq_getElem?_getD, List.getElem?_eq_getElem hk]; rfl
  rw [e2]
  exact List.getElem_mem _
theorem InT.at {w : World} {a : Option Addr} {len cap : Nat} {xs : List ByteArray} (h : InT w a len cap xs) {k : Nat} (hk : k < len) : ∃ (b off : Nat) (x : ByteArray), a = some ⟨b, off, none⟩ ∧ b < w.heap.size ∧ xs.getD k ⟨#[]⟩ = x ∧ x.size ≤ maxLen ∧ w.cell? ⟨b, off + k, none⟩ = some (.string x) := by
  rcases h.2.2.2.2 with h0 | ⟨b, off, e, hb, hc⟩
  · omega
  · exact ⟨b, off, _, e, hb, rfl, h.2.2.2.1 _ (tgetD_mem (by rw [h.1]; exact hk)), hc k hk⟩
theorem InT.kept {w w' : World} {a : Option Addr} {len cap : Nat} {xs : List ByteArray} {row : Option Nat} (h : InT w a len cap xs) (g : w.grownBy w' row) (hne : 0 < len → ∀ q, a = some q → some q.block ≠ row) : InT w' a len cap xs := by
  obtain ⟨h1, h2, h3, h4, h5⟩ := h
  refine ⟨h1, h2, h3, h4, ?_⟩
  by_cases h0 : len = 0
  · exact .inl h0
  rcases h5 with h5 | ⟨b, off, q1, q2, q3⟩
  · exact .inl h5
  · refine .inr ⟨b, off, q1, Nat.lt_of_lt_of_le q2 g.size, fun i hi => ?_⟩
    have e := g.block b q2 (hne (by omega) _ q1)
    exact (World.cell?_of_block (a := ⟨b, off + i, none⟩) e).trans (q3 i hi)
theorem InT.far {w : World} {a : Option Addr} {len cap : Nat} {xs : List ByteArray} (h : InT w a len cap xs) : 0 < len → ∀ q, a = some q → q.block < w.heap.size := by
  intro h0 q e
  rcases h.2.2.2.2 with h5 | ⟨b, off, q1, q2, -⟩
  · omega
  · rw [q1] at e; cases e; exact q2
theorem InT.len {w : World} {a : Option Addr} {len cap : Nat} {xs : List ByteArray} (h : InT w a len cap xs) : len ≤ 9223372036854775807 := by
  have := Nat.le_trans h.2.1 h.2.2.1
  unfold maxLen at this
  omega
theorem TRow.old {w w' : World} {b : Nat} {xs : List ByteArray} (h : TRow w b xs) (k : Below w.heap.size w w') : TRow w' b xs :=
  ⟨Nat.lt_of_lt_of_le h.1 k.size, fun i hi => ⟨(k.cell (p := ⟨b, i, none⟩) h.1).trans (h.2 i hi).1, (k.frozen (p := ⟨b, i, none⟩) h.1).trans (h.2 i hi).2⟩⟩
theorem TRow.inT {w : World} {b cap : Nat} {xs : List ByteArray} (h : TRow w b xs) (f : TFits xs) (h1 : xs.length ≤ cap) (h2 : cap ≤ maxLen) : InT w (some ⟨b, 0, none⟩) xs.length cap xs :=
  ⟨rfl, h1, h2, f, .inr ⟨b, 0, rfl, h.1, fun i hi => by rw [Nat.zero_add]; exact (h.2 i hi).1⟩⟩
theorem TRow.at {w : World} {b : Nat} {xs : List ByteArray} (h : TRow w b xs) {k : Nat} (hk : k < xs.length) : ∃ x : ByteArray, xs.getD k ⟨#[]⟩ = x ∧ w.cell? ⟨b, k, none⟩ = some (.string x) ∧ w.frozen? ⟨b, k, none⟩ = false := ⟨_, rfl, (h.2 k hk).1, (h.2 k hk).2⟩
theorem TRow.set {w : World} {b : Nat} {xs : List ByteArray} (h : TRow w b xs) (k : Nat) (hk : k < xs.length) (x : ByteArray) : TRow (w.setCell ⟨b, k, none⟩ (.string x)) b (xs.set k x) := by
  refine ⟨by simpa [World.setCell] using h.1, fun i hi => ?_⟩
  rw [List.length_set] at hi
  obtain ⟨h1, h3⟩ := h.2 i hi
  by_cases e : i = k
  · subst e
    have eg : (xs.set i x).getD i ⟨#[]⟩ = x := by simp [List.getD_eq_getElem?_getD, hk]
    rw [eg]
    exact ⟨World.cell?_setCell_same _ _ _ h1, by simpa using h3⟩
  · have eg : (xs.set k x).getD i ⟨#[]⟩ = xs.getD i ⟨#[]⟩ := by simp [List.getD_eq_getElem?_getD, Ne.symm e]
    rw [eg]
    refine ⟨?_, by simpa using h3⟩
    rw [World.cell?_setCell_other _ _ _ _ (by intro h; injection h with _ h2; omega)]; exact h1
theorem TRow.kept {w w' : World} {c : Nat} {xs : List ByteArray} {row : Option Nat} (h : TRow w c xs) (g : w.grownBy w' row) (hne : some c ≠ row) : TRow w' c xs := by
  refine ⟨Nat.lt_of_lt_of_le h.1 g.size, fun i hi => ?_⟩
  have e := g.block c h.1 hne
  exact ⟨(World.cell?_of_block (a := ⟨c, i, none⟩) e).trans (h.2 i hi).1, (World.frozen?_of_block (a := ⟨c, i, none⟩) e).trans (h.2 i hi).2⟩
def txts (xs : List ByteArray) : List Value := xs.map (fun x => .string x)
theorem txts_length (xs : List ByteArray) : (txts xs).length = xs.length * 1 := by simp [txts]
theorem txts_snoc (xs : List ByteArray) (x : ByteArray) : txts (xs ++ [x]) = txts xs ++ [.string x] := by simp [txts]
theorem txts_get {xs : List ByteArray} {i : Nat} (h : i < xs.length) : (txts xs)[i]? = some (.string (xs.getD i ⟨#[]⟩)) := by
  simp [txts, List.getD_eq_getElem?_getD, h]
/-- a list that is being made -/
def TGrows (w : World) (base : Nat) (v : Value) (xs : List ByteArray) : Prop := w.ownsRow base 9 1 v xs.length (txts xs)
theorem TGrows.nil (w : World) (base : Nat) : TGrows w base (.slice none 0 0) [] := World.ownsRow_nil w base _ _
theorem TGrows.kept {w w' : World} {base : Nat} {v : Value} {xs : List ByteArray} {row : Option Nat} (h : TGrows w base v xs) (g : w.grownBy w' row) (hne : ∀ b, row = some b → b < base) : TGrows w' base v xs := by
  refine World.ownsRow.kept h g ?_
  cases hv : v.ownBlock with
  | none => exact .inl rfl
  | some k =>
    refine .inr (fun e => ?_)
    have := hne k e.symm
    have := (World.ownsRow.lt h k hv).1
    omega
theorem TGrows.later {w w' : World} {base : Nat} {v : Value} {xs : List ByteArray} (h : TGrows w base v xs) (g : Below w.heap.size w w') : TGrows w' base v xs := h.kept (grown_below g) (by simp)
theorem TGrows.alloc {w : World} {base : Nat} {v : Value} {xs : List ByteArray} (h : TGrows w base v xs) (o : Obj) : TGrows (w.alloc o) base v xs := h.later ((Below.refl _ _).alloc (Nat.le_refl _) o)
theorem TGrows.far {w : World} {base : Nat} {v : Value} {xs : List ByteArray} (h : TGrows w base v xs) {c : Nat} (hc : c < base) : some c ≠ v.ownBlock := fun e => by have := (World.ownsRow.lt h c e.symm).1; omega
theorem TGrows.row {w : World} {base : Nat} {v : Value} {xs : List ByteArray} (h : TGrows w base v xs) (hp : 0 < xs.length) : ∃ g cap, v = .slice (some ⟨g, 0, none⟩) xs.length cap ∧ base ≤ g ∧ xs.length ≤ cap ∧ cap ≤ maxLen ∧ TRow w g xs := by
  have h' := h
  rcases h.2 with ⟨_, h0⟩ | ⟨g, cap, cur, rfl, hb, hg, h1, h2, -, -⟩
  · omega
  refine ⟨g, cap, rfl, hb, h1, h2, (Array.getElem?_eq_some_iff.1 hg).1, fun i hi => ?_⟩
  exact ⟨(World.ownsRow.cellAt h' i (by omega)).trans (txts_get hi), World.ownsRow.frozenAt h' _⟩
theorem TGrows.none {w : World} {base : Nat} {v : Value} (h : TGrows w base v []) : ∃ av cv, v = .slice av 0 cv := by
  rcases h.2 with ⟨h0, _⟩ | ⟨g, cap, cur, rfl, hb, hg, h1, h2, -, -⟩
  · exact ⟨_, _, h0⟩
  · exact ⟨_, _, rfl⟩
/-- texts in memory of their own, at or beyond base; or none -/
def OT (w : World) (base : Nat) (av : Option Addr) (cv : Nat) (xs : List ByteArray) : Prop :=
  TFits xs ∧ xs.length ≤ cv ∧ cv ≤ maxLen ∧ ((av = none ∧ xs = []) ∨ ∃ g, av = some ⟨g, 0, none⟩ ∧ base ≤ g ∧ TRow w g xs)
theorem tfits_nil : TFits [] := fun p hp => absurd hp (by simp)
theorem OT.none (w : World) (base : Nat) : OT w base none 0 [] := ⟨tfits_nil, Nat.le_refl _, Nat.zero_le _, .inl ⟨rfl, rfl⟩⟩
theorem TGrows.ot {w : World} {base : Nat} {v : Value} {xs : List ByteArray} (h : TGrows w base v xs) (f : TFits xs) : ∃ av cv, v = .slice av xs.length cv ∧ OT w base av cv xs := by
  by_cases h0 : 0 < xs.length
  · obtain ⟨g, cap, rfl, h1, h2, h3, h4⟩ := h.row h0
    exact ⟨_, _, rfl, f, h2, h3, .inr ⟨g, rfl, h1, h4⟩⟩
  · obtain rfl : xs = [] := List.length_eq_zero_iff.1 (by omega)
    rcases h.2 with ⟨h1, _⟩ | ⟨g, cap, cur, rfl, hb, hg, h1, h2, -, -⟩
    · exact ⟨_, _, h1, tfits_nil, Nat.le_refl _, Nat.zero_le _, .inl ⟨rfl, rfl⟩⟩
    · exact ⟨_, _, rfl, tfits_nil, h1, h2, .inr ⟨g, rfl, hb, (Array.getElem?_eq_some_iff.1 hg).1, fun i hi => absurd hi (by simp)⟩⟩
section
variable {w w' : World} {base cv : Nat} {av : Option Addr} {ps : List ByteArray}
theorem OT.inT (h : OT w base av cv ps) : InT w av ps.length cv ps := by
  obtain ⟨h1, h2, h3, ⟨rfl, rfl⟩ | ⟨g, rfl, h4, h5⟩⟩ := h
  · exact ⟨rfl, h2, h3, h1, .inl rfl⟩
  · exact h5.inT h1 h2 h3
theorem OT.mono {base' : Nat} (h : OT w base av cv ps) (hb : base' ≤ base) : OT w base' av cv ps := by
  obtain ⟨h1, h2, h3, h4 | ⟨g, h4, h5, h6⟩⟩ := h
  · exact ⟨h1, h2, h3, .inl h4⟩
  · exact ⟨h1, h2, h3, .inr ⟨g, h4, by omega, h6⟩⟩
theorem OT.later (h : OT w base av cv ps) (k : Below w.heap.size w w') : OT w' base av cv ps := by
  obtain ⟨h1, h2, h3, h4 | ⟨g, h4, h5, h6⟩⟩ := h
  · exact ⟨h1, h2, h3, .inl h4⟩
  · exact ⟨h1, h2, h3, .inr ⟨g, h4, h5, h6.old k⟩⟩
theorem OT.alloc (h : OT w base av cv ps) (o : Obj) : OT (w.alloc o) base av cv ps := h.later ((Below.refl _ _).alloc (Nat.le_refl _) o)
theorem OT.drew (h : OT w base av cv ps) : OT w.drew base av cv ps := h
theorem OT.kept {row : Option Nat} (h : OT w base av cv ps) (g : w.grownBy w' row) (hne : ∀ q, av = some q → some q.block ≠ row) : OT w' base av cv ps := by
  obtain ⟨h1, h2, h3, h4 | ⟨c, h4, h5, h6⟩⟩ := h
  · exact ⟨h1, h2, h3, .inl h4⟩
  · exact ⟨h1, h2, h3, .inr ⟨c, h4, h5, h6.kept g (hne _ h4)⟩⟩
theorem OT.lt (h : OT w base av cv ps) : ∀ q, av = some q → q.block < w.heap.size := by
  intro q e
  obtain ⟨h1, h2, h3, ⟨rfl, _⟩ | ⟨c, rfl, h5, h6⟩⟩ := h
  · cases e
  · cases e; exact h6.1
theorem OT.ge (h : OT w base av cv ps) : ∀ q, av = some q → base ≤ q.block := by
  intro q e
  obtain ⟨h1, h2, h3, ⟨rfl, _⟩ | ⟨c, rfl, h5, h6⟩⟩ := h
  · cases e
  · cases e; exact h5
theorem OT.sep (h : OT w base av cv ps) {a : Option Addr} (hc : ∀ q, a = some q → q.block < base) : ∀ q, a = some q → some q.block ≠ ownB av := by
  intro q e e2
  cases av with
  | none => cases e2
  | some p => have := h.ge p rfl; have := hc q e; simp [ownB] at e2; omega
theorem OT.sep' (h : OT w base av cv ps) {a : Option Addr} (hc : ∀ q, a = some q → q.block < base) : ∀ q, av = some q → some q.block ≠ ownB a := by
  intro q e e2
  have := h.ge q e
  cases a with
  | none => cases e2
  | some p => have := hc p rfl; simp [ownB] at e2; omega
end
theorem Below.markedT {n : Nat} {w0 w w' : World} {base cv : Nat} {av : Option Addr} {ps : List ByteArray} (hb : Below n w0 w) (h : OT w base av cv ps) (g : w.grownBy w' (ownB av)) (hn : n ≤ base) (h0 : n ≤ w.heap.size) : Below n w0 w' :=
  hb.grown g h0 (fun k e => by
    cases av with
    | none => cases e
    | some q => have := h.ge q rfl; simp [ownB] at e; omega)

def TUpto (k : Nat) (qs xs : List ByteArray) : Prop := qs.length = xs.length ∧ ∀ i, i < k → qs.getD i ⟨#[]⟩ = xs.getD i ⟨#[]⟩
theorem TUpto.zero {qs xs : List ByteArray} (hp : qs.length = xs.length) : TUpto 0 qs xs := ⟨hp, fun i h => by omega⟩
theorem TUpto.step {k : Nat} {qs xs : List ByteArray} (h : TUpto k qs xs) (hk : k < xs.length) : TUpto (k + 1) (qs.set k (xs.getD k ⟨#[]⟩)) xs := by
  refine ⟨by rw [List.length_set]; exact h.1, fun i hi => ?_⟩
  by_cases e : i = k
  · subst e
    have := h.1
    simp [List.getD_eq_getElem?_getD, show i < qs.length by omega]
  · have : (qs.set k (xs.getD k ⟨#[]⟩)).getD i ⟨#[]⟩ = qs.getD i ⟨#[]⟩ := by simp [List.getD_eq_getElem?_getD, Ne.symm e]
    rw [this]; exact h.2 i (by omega)
theorem TUpto.all {qs xs : List ByteArray} (h : TUpto xs.length qs xs) : qs = xs := by
  refine List.ext_getElem h.1 fun i h1 h2 => ?_
  have := h.2 i h2
  simpa [List.getD_eq_getElem?_getD, h1, h2] using this
def tmarks (k : Int) (n : Nat) : List ByteArray := (List.range n).map (fun (i : Nat) => mtx (k + (i : Int)))
theorem tmarks_length (k : Int) (n : Nat) : (tmarks k n).length = n := by simp [tmarks]
theorem tmarks_getD (k : Int) {n i : Nat} (h : i < n) : (tmarks k n).getD i ⟨#[]⟩ = mtx (k + (i : Int)) := by
  simp [tmarks, List.getD_eq_getElem?_getD, h]
theorem mtN_len (k : Nat) : ∀ (m : Nat) (l : List UInt8), m < 10 ^ k → (mtN m l).length ≤ k + l.length := by
  induction k with
  | zero => intro m l h; obtain rfl : m = 0 := by simpa using h
            rw [mtN_zero]; omega
  | succ k ih =>
    intro m l h
    by_cases h0 : m = 0
    · subst h0; rw [mtN_zero]; omega
    · rw [mtN_pos h0]
      have := ih (m / 10) (UInt8.ofNat (48 + m % 10) :: l) (by rw [Nat.pow_succ] at h; omega)
      rw [List.length_cons] at this
      omega
theorem mtx_size {k : Int} (hk : k ≤ 33554432) : (mtx k).size ≤ 20 := by
  unfold mtx
  split
  · show 2 ≤ 20; omega
  · show (109 :: mtN k.toNat []).toArray.size ≤ 20
    have := mtN_len 9 k.toNat [] (by have : k.toNat < 10 ^ 9 := by omega
                                     exact this)
    simp at this ⊢
    omega
theorem tmarks_fits {k : Int} {n : Nat} (h1 : k ≤ 16777216) (hn : n ≤ 1048576) : TFits (tmarks k n) := by
  intro x hx
  obtain ⟨i, hi, rfl⟩ := List.mem_map.1 hx
  have := List.mem_range.1 hi
  exact Nat.le_trans (mtx_size (by omega)) (by unfold maxLen; omega)
theorem grown_on {w w1 w2 : World} {b : Nat} (h : w.grownBy w1 (some b)) (k : Below w1.heap.size w1 w2) : w.grownBy w2 (some b) := h.trans ⟨k.1, k.2, k.3, k.4, fun j hj _ => k.5 j hj⟩
set_option maxHeartbeats 2000000 in
theorem lEqTexts (a a' : Option Addr) (len cap cap' : Nat) (xs : List ByteArray) (w : World) (hR : InT w a len cap xs) (hR' : InT w a' len cap' xs) :
    Calls Try.prog 8 #[.slice a len cap, .slice a' len cap'] w fun e w' => e = .returned (.bool true) ∧ Below w.heap.size w w' := by
  have hlen := hR.len
  go_enter Try.func8, Try.ntmps8
  go_wp2
  go_loopw [5] (fun a wr => ∃ k : Nat, k ≤ len ∧ a = .int .i64 k ∧ Below w.heap.size w wr) (fun b _ => len - (intOf b).toNat)
  case atStart => exact ⟨0, by omega, rfl, (by repeat (first | exact Below.refl _ _ | refine Below.drew ?_ | refine old_alloc ?_ _ | refine old_trans ?_ (by assumption)))⟩
  case round =>
    obtain ⟨k, hk, rfl, hb⟩ := hrel
    by_cases hlt : k < len
    · obtain ⟨b, off, x, rfl, hbl, hx, -, c0⟩ := (hR.old hb).at hlt
      obtain ⟨b', off', x', rfl, hbl', hx', -, c0'⟩ := (hR'.old hb).at hlt
      obtain rfl := hx.symm.trans hx'
      go_wp2_with fail
      go_region
      all_goals
        go_wp2
        go_roundw
        case rel => exact ⟨k + 1, by omega, by go_num, hb.drew⟩
        case measure => simp [intOf]; omega
    · obtain rfl : k = len := by omega
      go_wp2
      go_ret
      exact ⟨rfl, hb⟩
set_option maxHeartbeats 2000000 in
theorem lMarkRowT (b cap : Nat) (xs : List ByteArray) (k : Int) (w : World) (hr : TRow w b xs) (hl : xs.length ≤ 1048576) (k0 : 0 ≤ k) (k1 : k ≤ 16777216) :
    Calls Try.prog 11 #[.slice (some ⟨b, 0, none⟩) xs.length cap, .int .i64 k] w fun e w' => e = .returned (.int .i64 (k + xs.length)) ∧ TRow w' b (tmarks k xs.length) ∧ w.grownBy w' (some b) := by
  go_enter Try.func11, Try.ntmps11
  go_wp2
  go_loopw [1, 5] (fun s i wr => ∃ (j : Nat) (qs : List ByteArray), j ≤ xs.length ∧ s = .int .i64 (k + j) ∧ i = .int .i64 j ∧ TUpto j qs (tmarks k xs.length) ∧ TRow wr b qs ∧ w.grownBy wr (some b)) (fun _ b _ => xs.length - (intOf b).toNat)
  case atStart => exact ⟨0, xs, by omega, by simp, rfl, TUpto.zero (by rw [tmarks_length]), hr, World.grownBy.refl _ _⟩
  case round =>
    obtain ⟨j, qs, hj, rfl, rfl, hu, hrr, hg⟩ := hrel
    have hql : qs.length = xs.length := by rw [hu.1, tmarks_length]
    by_cases hlt : j < xs.length
    · have MT := hd (fun w' => lMarkText (k + j) (by omega) w')
      have hup := hu.step (by rw [tmarks_length]; omega)
      rw [tmarks_getD k hlt] at hup
      have hji : (j : Int) < (xs.length : Int) := by omega
      generalize mtx (k + j) = tx at *
      go_wp2_with fail
      refine (MT.out _).mono ?_
      rintro e w1 ⟨rfl, hb1⟩
      have hr1 := hrr.old hb1
      obtain ⟨x', -, d0, d2⟩ := hr1.at (k := j) (by omega)
      have hst := hr1.set j (by omega) tx
      go_wp2
      go_roundw
      case rel => exact ⟨j + 1, _, by omega, by go_num, by go_num, hup, hst, grown_set (grown_on hg hb1) _ _⟩
      case measure => simp [intOf]; omega
    · obtain rfl : j = xs.length := by omega
      have hq : qs = tmarks k xs.length := TUpto.all (by rw [tmarks_length]; exact hu)
      subst hq
      go_wp2
      go_ret
      exact ⟨rfl, hrr, hg⟩
set_option maxHeartbeats 1000000 in
theorem lMarkNoneT (a : Option Addr) (cap : Nat) (k : Int) (w : World) :
    Calls Try.prog 11 #[.slice a 0 cap, .int .i64 k] w fun e w' => e = .returned (.int .i64 k) ∧ w' = w := by
  go_enter Try.func11, Try.ntmps11
  go_wp2
  go_loopw [1, 5] (fun s i wr => s = .int .i64 k ∧ i = .int .i64 0 ∧ wr = w) (fun _ _ _ => 0)
  case atStart => exact ⟨rfl, rfl, rfl⟩
  case round =>
    obtain ⟨rfl, rfl, rfl⟩ := hrel
    go_wp2
    go_ret
    exact ⟨rfl, rfl⟩
set_option maxHeartbeats 2000000 in
theorem lHeldTexts (a : Option Addr) (cap n : Nat) (k : Int) (w : World) (hR : InT w a n cap (tmarks k n)) (hl : n ≤ 1048576) (k0 : 0 ≤ k) (k1 : k ≤ 16777216) :
    Calls Try.prog 12 #[.slice a n cap, .int .i64 k] w fun e w' => e = .returned (.int .i64 (k + n)) ∧ Below w.heap.size w w' := by
  go_enter Try.func12, Try.ntmps12
  go_wp2
  go_loopw [1, 5] (fun s i wr => ∃ j : Nat, j ≤ n ∧ s = .int .i64 (k + j) ∧ i = .int .i64 j ∧ Below w.heap.size w wr) (fun _ b _ => n - (intOf b).toNat)
  case atStart => exact ⟨0, by omega, by simp, rfl, Below.refl _ _⟩
  case round =>
    obtain ⟨j, hj, rfl, rfl, hb⟩ := hrel
    by_cases hlt : j < n
    · obtain ⟨b, off, x, rfl, hbl, hx, -, c0⟩ := (hR.old hb).at hlt
      rw [tmarks_getD k hlt] at hx
      have MT := hd (fun w' => lMarkText (k + j) (by omega) w')
      rw [hx] at MT
      have hji : (j : Int) < (n : Int) := by omega
      clear hx
      go_wp2_with fail
      go_region_held3 (fun w' => w'.cell? ⟨b, off + j, none⟩ = some (.string x)) (go_keep) (first | (go_at_call 22; refine (MT.out _).mono ?_; rintro e w1 ⟨rfl, hb1⟩; have hz1 : Below wr.heap.size wr w1 := (by repeat (first | exact Below.refl _ _ | refine Below.drew ?_ | refine old_alloc ?_ _ | refine old_trans ?_ (by assumption))); have c0 := cell_later hz1 c0))
      all_goals
        have hbz := old_trans hb hz1
        go_wp2
        go_roundw
        case rel => exact ⟨j + 1, by omega, by go_num, by go_num, by first | exact hbz | exact hbz.drew⟩
        case measure => simp [intOf]; omega
    · obtain rfl : j = n := by omega
      go_wp2
      go_ret
      exact ⟨rfl, hb⟩
theorem lEqTO (av av' : Option Addr) (cv cv' base base' : Nat) (xs : List ByteArray) (w : World) (h : OT w base av cv xs) (h' : OT w base' av' cv' xs) :
    Calls Try.prog 8 #[.slice av xs.length cv, .slice av' xs.length cv'] w fun e w' => e = .returned (.bool true) ∧ Below w.heap.size w w' :=
  lEqTexts av av' xs.length cv cv' xs w h.inT h'.inT
theorem lMarkTO (base : Nat) (av : Option Addr) (cv : Nat) (xs : List ByteArray) (k : Int) (w : World) (h : OT w base av cv xs) (hl : xs.length ≤ 1048576) (k0 : 0 ≤ k) (k1 : k ≤ 16777216) :
    Calls Try.prog 11 #[.slice av xs.length cv, .int .i64 k] w fun e w' => e = .returned (.int .i64 (k + xs.length)) ∧ OT w' base av cv (tmarks k xs.length) ∧ w.grownBy w' (ownB av) := by
  obtain ⟨h1, h2, h3, ⟨rfl, rfl⟩ | ⟨g, rfl, h4, h5⟩⟩ := h
  · refine (lMarkNoneT none cv k w).mono ?_
    rintro e w' ⟨rfl, rfl⟩
    exact ⟨by simp, ⟨by simpa [tmarks] using tfits_nil, by simp [tmarks], h3, .inl ⟨rfl, by simp [tmarks]⟩⟩, World.grownBy.refl _ _⟩
  · refine (lMarkRowT g cv xs k w h5 hl k0 k1).mono ?_
    rintro e w' ⟨rfl, hr, hg⟩
    exact ⟨rfl, ⟨tmarks_fits k1 hl, by rw [tmarks_length]; exact h2, h3, .inr ⟨g, rfl, h4, hr⟩⟩, hg⟩
theorem lHeldTO (base : Nat) (av : Option Addr) (cv n : Nat) (k : Int) (w : World) (h : OT w base av cv (tmarks k n)) (hl : n ≤ 1048576) (k0 : 0 ≤ k) (k1 : k ≤ 16777216) :
    Calls Try.prog 12 #[.slice av n cv, .int .i64 k] w fun e w' => e = .returned (.int .i64 (k + n)) ∧ Below w.heap.size w w' := by
  have hI := h.inT
  rw [tmarks_length] at hI
  exact lHeldTexts av cv n k w hI hl k0 k1
end Go.Proofs.Ytafpjgojmpjajaa
