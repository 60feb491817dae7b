/- Lists of texts: in memory of their own, held against each other, marked. No condition but marks up to 2^25. -/
import Derived.Test.YtmpckbgelkfgpaaPK18
import Derived.Deep.RegionHeld3
import Derived.Test.YtmpckbgelkfgpaaPK02
import Derived.Test.YtmpckbgelkfgpaaPK03
import Derived.Deep.Slices
import Derived.Deep.Strs
namespace Go.Proofs.Ytmpckbgelkfgpaa
open Go.RowKit
set_option linter.unusedVariables false
set_option maxRecDepth 100000

/-- texts in a block of their own -/
def TRow (w : World) (b : Nat) (xs : List ByteArray) : Prop :=
  b < w.heap.size ∧ ∀ i, i < xs.length → w.cell? ⟨b, i, none⟩ = some (.string (xs.getD i ⟨#[]⟩)) ∧ w.frozen? ⟨b, i, none⟩ = false
def TFits (xs : List ByteArray) : Prop := ∀ x ∈ xs, x.size ≤ maxLen
/-- texts that lie somewhere -/
def InT (w : World) (a : Option Addr) (len cap : Nat) (xs : List ByteArray) : Prop :=
  xs.length = len ∧ len ≤ cap ∧ cap ≤ maxLen ∧ TFits xs ∧
  (len = 0 ∨ ∃ b off : Nat, a = some ⟨b, off, none⟩ ∧ b < w.heap.size ∧ ∀ i, i < len → w.cell? ⟨b, off + i, none⟩ = some (.string (xs.getD i ⟨#[]⟩)))
theorem InT.old {w w' : World} {a : Option Addr} {len cap : Nat} {xs : List ByteArray} (h : InT w a len cap xs) (b : Below w.heap.size w w') : InT w' a len cap xs := by
  obtain ⟨h1, h2, h3, h4, h5⟩ := h
  refine ⟨h1, h2, h3, h4, ?_⟩
  rcases h5 with h5 | ⟨bb, off, q1, q2, q3⟩
  · exact .inl h5
  · exact .inr ⟨bb, off, q1, Nat.lt_of_lt_of_le q2 b.size, fun i hi => (b.cell (p := ⟨bb, off + i, none⟩) q2).trans (q3 i hi)⟩
theorem InT.alloc {w : World} {a : Option Addr} {len cap : Nat} {xs : List ByteArray} (h : InT w a len cap xs) (o : Obj) : InT (w.alloc o) a len cap xs := h.old ((Below.refl _ _).alloc (Nat.le_refl _) o)
theorem InT.drew {w : World} {a : Option Addr} {len cap : Nat} {xs : List ByteArray} (h : InT w a len cap xs) : InT w.drew a len cap xs := h
theorem tgetD_mem {xs : List ByteArray} {k : Nat} (hk : k < xs.length) : xs.getD k ⟨#[]⟩ ∈ xs := by
  have e2 : xs.getD k ⟨#[]⟩ = xs[k]'hk := by rw [List.getD_eq_getElem?_getD, List.getElem?_eq_getElem hk]; rfl
  rw [e2]
  exact List.getElem_mem _
theorem InT.at {w : World} {a : Option Addr} {len cap : Nat} {xs : List ByteArray} (h : InT w a len cap xs) {k : Nat} (hk : k < len) : ∃ (b off : Nat) (x : ByteArray), a = some ⟨b, off, none⟩ ∧ b < w.heap.size ∧ xs.getD k ⟨#[]⟩ = x ∧ x.size ≤ maxLen ∧ w.cell? ⟨b, off + k, none⟩ = some (.string x) := by
  rcases h.2.2.2.2 with h0 | ⟨b, off, e, hb, hc⟩
  · omega
  · exact ⟨b, off, _, e, hb, rfl, h.2.2.2.1 _ (tgetD_mem (by rw [h.1]; exact hk)), hc k hk⟩
theorem InT.kept {w w' : World} {a : Option Addr} {len cap : Nat} {xs : List ByteArray} {row : Option Nat} (h : InT w a len cap xs) (g : w.grownBy w' row) (hne : 0 < len → ∀ q, a = some q → some q.block ≠ row) : InT w' a len cap xs := by
  obtain ⟨h1, h2, h3, h4, h5⟩ := h
  refine ⟨h1, h2, h3, h4, ?_⟩
  by_cases h0 : len = 0
  · exact .inl h0
  rcases h5 with h5 | ⟨b, off, q1, q2, q3⟩
  · exact .inl h5
  · refine .inr ⟨b, off, q1, Nat.lt_of_lt_of_le q2 g.size, fun i hi => ?_⟩
    have e := g.block b q2 (hne (by omega) _ q1)
    exact (World.cell?_of_block (a := ⟨b, off + i, none⟩) e).trans (q3 i hi)
theorem InT.far {w : World} {a : Option Addr} {len cap : Nat} {xs : List ByteArray} (h : InT w a len cap xs) : 0 < len → ∀ q, a = some q → q.block < w.heap.size := by
  intro h0 q e
  rcases h.2.2.2.2 with h5 | ⟨b, off, q1, q2, -⟩
  · omega
  · rw [q1] at e; cases e; exact q2
theorem InT.len {w : World} {a : Option Addr} {len cap : Nat} {xs : List ByteArray} (h : InT w a len cap xs) : len ≤ 9223372036854775807 := by
  have := Nat.le_trans h.2.1 h.2.2.1
  unfold maxLen at this
  omega
theorem TRow.old {w w' : World} {b : Nat} {xs : List ByteArray} (h : TRow w b xs) (k : Below w.heap.size w w') : TRow w' b xs :=
  ⟨Nat.lt_of_lt_of_le h.1 k.size, fun i hi => ⟨(k.cell (p := ⟨b, i, none⟩) h.1).trans (h.2 i hi).1, (k.frozen (p := ⟨b, i, none⟩) h.1).trans (h.2 i hi).2⟩⟩
theorem TRow.inT {w : World} {b cap : Nat} {xs : List ByteArray} (h : TRow w b xs) (f : TFits xs) (h1 : xs.length ≤ cap) (h2 : cap ≤ maxLen) : InT w (some ⟨b, 0, none⟩) xs.length cap xs :=
  ⟨rfl, h1, h2, f, .inr ⟨b, 0, rfl, h.1, fun i hi => by rw [Nat.zero_add]; exact (h.2 i hi).1⟩⟩
theorem TRow.at {w : World} {b : Nat} {xs : List ByteArray} (h : TRow w b xs) {k : Nat} (hk : k < xs.length) : ∃ x : ByteArray, xs.getD k ⟨#[]⟩ = x ∧ w.cell? ⟨b, k, none⟩ = some (.string x) ∧ w.frozen? ⟨b, k, none⟩ = false := ⟨_, rfl, (h.2 k hk).1, (h.2 k hk).2⟩
theorem TRow.set {w : World} {b : Nat} {xs : List ByteArray} (h : TRow w b xs) (k : Nat) (hk : k < xs.length) (x : ByteArray) : TRow (w.setCell ⟨b, k, none⟩ (.string x)) b (xs.set k x) := by
  refine ⟨by simpa [World.setCell] using h.1, fun i hi => ?_⟩
  rw [List.length_set] at hi
  obtain ⟨h1, h3⟩ := h.2 i hi
  by_cases e : i = k
  · subst e
    have eg : (xs.set i x).getD i ⟨#[]⟩ = x := by simp [List.getD_eq_getElem?_getD, hk]
    rw [eg]
    exact ⟨World.cell?_setCell_same _ _ _ h1, by simpa using h3⟩
  · have eg : (xs.set k x).getD i ⟨#[]⟩ = xs.getD i ⟨#[]⟩ := by simp [List.getD_eq_getElem?_getD, Ne.symm e]
    rw [eg]
    refine ⟨?_, by simpa using h3⟩
    rw [World.cell?_setCell_other _ _ _ _ (by intro h; injection h with _ h2; omega)]; exact h1
theorem TRow.kept {w w' : World} {c : Nat} {xs : List ByteArray} {row : Option Nat} (h : TRow w c xs) (g : w.grownBy w' row) (hne : some c ≠ row) : TRow w' c xs := by
  refine ⟨Nat.lt_of_lt_of_le h.1 g.size, fun i hi => ?_⟩
  have e := g.block c h.1 hne
  exact ⟨(World.cell?_of_block (a := ⟨c, i, none⟩) e).trans (h.2 i hi).1, (World.frozen?_of_block (a := ⟨c, i, none⟩) e).trans (h.2 i hi).2⟩
def txts (xs : List ByteArray) : List Value := xs.map (fun x => .string x)
theorem txts_get {xs : List ByteArray} {i : Nat} (h : i < xs.length) : (txts xs)[i]? = some (.string (xs.getD i ⟨#[]⟩)) := by
  simp [txts, List.getD_eq_getElem?_getD, h]
/-- a list that is being made -/
def TGrows (w : World) (base : Nat) (v : Value) (xs : List ByteArray) : Prop := w.ownsRow base 9 1 v xs.length (txts xs)
theorem TGrows.nil (w : World) (base : Nat) : TGrows w base (.slice none 0 0) [] := World.ownsRow_nil w base _ _
theorem TGrows.kept {w w' : World} {base : Nat} {v : Value} {xs : List ByteArray} {row : Option Nat} (h : TGrows w base v xs) (g : w.grownBy w' row) (hne : ∀ b, row = some b → b < base) : TGrows w' base v xs := by
  refine World.ownsRow.kept h g ?_
  cases hv : v.ownBlock with
  | none => exact .inl rfl
  | some k =>
    refine .inr (fun e => ?_)
    have := hne k e.symm
    have := (World.ownsRow.lt h k hv).1
    omega
theorem TGrows.later {w w' : World} {base : Nat} {v : Value} {xs : List ByteArray} (h : TGrows w base v xs) (g : Below w.heap.size w w') : TGrows w' base v xs := h.kept (grown_below g) (by simp)
theorem TGrows.alloc {w : World} {base : Nat} {v : Value} {xs : List ByteArray} (h : TGrows w base v xs) (o : Obj) : TGrows (w.alloc o) base v xs := h.later ((Below.refl _ _).alloc (Nat.le_refl _) o)
theorem TGrows.far {w : World} {base : Nat} {v : Value} {xs : List ByteArray} (h : TGrows w base v xs) {c : Nat} (hc : c < base) : some c ≠ v.ownBlock := fun e => by have := (World.ownsRow.lt h c e.symm).1; omega
theorem TGrows.row {w : World} {base : Nat} {v : Value} {xs : List ByteArray} (h : TGrows w base v xs) (hp : 0 < xs.length) : ∃ g cap, v = .slice (some ⟨g, 0, none⟩) xs.length cap ∧ base ≤ g ∧ xs.length ≤ cap ∧ cap ≤ maxLen ∧ TRow w g xs := by
  have h' := h
  rcases h.2 with ⟨_, h0⟩ | ⟨g, cap, cur, rfl, hb, hg, h1, h2, -, -⟩
  · omega
  refine ⟨g, cap, rfl, hb, h1, h2, (Array.getElem?_eq_some_iff.1 hg).1, fun i hi => ?_⟩
  exact ⟨(World.ownsRow.cellAt h' i (by omega)).trans (txts_get hi), World.ownsRow.frozenAt h' _⟩
theorem TGrows.none {w : World} {base : Nat} {v : Value} (h : TGrows w base v []) : ∃ av cv, v = .slice av 0 cv := by
  rcases h.2 with ⟨h0, _⟩ | ⟨g, cap, cur, rfl, hb, hg, h1, h2, -, -⟩
  · exact ⟨_, _, h0⟩
  · exact ⟨_, _, rfl⟩
/-- texts in memory of their own, at or beyond base; or none -/
def OT (w : World) (base : Nat) (av : Option Addr) (cv : Nat) (xs : List ByteArray) : Prop :=
  TFits xs ∧ xs.length ≤ cv ∧ cv ≤ maxLen ∧ ((av = none ∧ xs = []) ∨ ∃ g, av = some ⟨g, 0, none⟩ ∧ base ≤ g ∧ TRow w g xs)
theorem tfits_nil : TFits [] := fun p hp => absurd hp (by simp)
theorem OT.none (w : World) (base : Nat) : OT w base none 0 [] := ⟨tfits_nil, Nat.le_refl _, Nat.zero_le _, .inl ⟨rfl, rfl⟩⟩
section
variable {w w' : World} {base cv : Nat} {av : Option Addr} {ps : List ByteArray}
theorem OT.inT (h : OT w base av cv ps) : InT w av ps.length cv ps := by
  obtain ⟨h1, h2, h3, ⟨rfl, rfl⟩ | ⟨g, rfl, h4, h5⟩⟩ := h
  · exact ⟨rfl, h2, h3, h1, .inl rfl⟩
  · exact h5.inT h1 h2 h3
theorem OT.mono {base' : Nat} (h : OT w base av cv ps) (hb : base' ≤ base) : OT w base' av cv ps := by
  obtain ⟨h1, h2, h3, h4 | ⟨g, h4, h5, h6⟩⟩ := h
  · exact ⟨h1, h2, h3, .inl h4⟩
  · exact ⟨h1, h2, h3, .inr ⟨g, h4, by omega, h6⟩⟩
theorem OT.later (h : OT w base av cv ps) (k : Below w.heap.size w w') : OT w' base av cv ps := by
  obtain ⟨h1, h2, h3, h4 | ⟨g, h4, h5, h6⟩⟩ := h
  · exact ⟨h1, h2, h3, .inl h4⟩
  · exact ⟨h1, h2, h3, .inr ⟨g, h4, h5, h6.old k⟩⟩
theorem OT.alloc (h : OT w base av cv ps) (o : Obj) : OT (w.alloc o) base av cv ps := h.later ((Below.refl _ _).alloc (Nat.le_refl _) o)
theorem OT.drew (h : OT w base av cv ps) : OT w.drew base av cv ps := h
theorem OT.kept {row : Option Nat} (h : OT w base av cv ps) (g : w.grownBy w' row) (hne : ∀ q, av = some q → some q.block ≠ row) : OT w' base av cv ps := by
  obtain ⟨h1, h2, h3, h4 | ⟨c, h4, h5, h6⟩⟩ := h
  · exact ⟨h1, h2, h3, .inl h4⟩
  · exact ⟨h1, h2, h3, .inr ⟨c, h4, h5, h6.kept g (hne _ h4)⟩⟩
theorem OT.lt (h : OT w base av cv ps) : ∀ q, av = some q → q.block < w.heap.size := by
  intro q e
  obtain ⟨h1, h2, h3, ⟨rfl, _⟩ | ⟨c, rfl, h5, h6⟩⟩ := h
  · cases e
  · cases e; exact h6.1
theorem OT.ge (h : OT w base av cv ps) : ∀ q, av = some q → base ≤ q.block := by
  intro q e
  obtain ⟨h1, h2, h3, ⟨rfl, _⟩ | ⟨c, rfl, h5, h6⟩⟩ := h
  · cases e
  · cases e; exact h5
end
theorem Below.markedT {n : Nat} {w0 w w' : World} {base cv : Nat} {av : Option Addr} {ps : List ByteArray} (hb : Below n w0 w) (h : OT w base av cv ps) (g : w.grownBy w' (ownB av)) (hn : n ≤ base) (h0 : n ≤ w.heap.size) : Below n w0 w' :=
  hb.grown g h0 (fun k e => by
    cases av with
    | none => cases e
    | some q => have := h.ge q rfl; simp [ownB] at e; omega)

def TUpto (k : Nat) (qs xs : List ByteArray) : Prop := qs.length = xs.length ∧ ∀ i, i < k → qs.getD i ⟨#[]⟩ = xs.getD i ⟨#[]⟩
theorem TUpto.zero {qs xs : List ByteArray} (hp : qs.length = xs.length) : TUpto 0 qs xs := ⟨hp, fun i h => by omega⟩
theorem TUpto.step {k : Nat} {qs xs : List ByteArray} (h : TUpto k qs xs) (hk : k < xs.length) : TUpto (k + 1) (qs.set k (xs.getD k ⟨#[]⟩)) xs := by
  refine ⟨by rw [List.length_set]; exact h.1, fun i hi => ?_⟩
  by_cases e : i = k
  · subst e
    have := h.1
    simp [List.getD_eq_getElem?_getD, show i < qs.length by omega]
  · have : (qs.set k (xs.getD k ⟨#[]⟩)).getD i ⟨#[]⟩ = qs.getD i ⟨#[]⟩ := by simp [List.getD_eq_getElem?_getD, Ne.symm e]
    rw [this]; exact h.2 i (by omega)
theorem TUpto.all {qs xs : List ByteArray} (h : TUpto xs.length qs xs) : qs = xs := by
  refine List.ext_getElem h.1 fun i h1 h2 => ?_
  have := h.2 i h2
  simpa [List.getD_eq_getElem?_getD, h1, h2] using this
def tmarks (k : Int) (n : Nat) : List ByteArray := (List.range n).map (fun (i : Nat) => mtx (k + (i : Int)))
theorem tmarks_length (k : Int) (n : Nat) : (tmarks k n).length = n := by simp [tmarks]
theorem tmarks_getD (k : Int) {n i : Nat} (h : i < n) : (tmarks k n).getD i ⟨#[]⟩ = mtx (k + (i : Int)) := by
  simp [tmarks, List.getD_eq_getElem?_getD, h]
theorem mtN_len (k : Nat) : ∀ (m : Nat) (l : List UInt8), m < 10 ^ k → (mtN m l).length ≤ k + l.length := by
  induction k with
  | zero => intro m l h; obtain rfl : m = 0 := by simpa using h
            rw [mtN_zero]; omega
  | succ k ih =>
    intro m l h
    by_cases h0 : m = 0
    · subst h0; rw [mtN_zero]; omega
    · rw [mtN_pos h0]
      have := ih (m / 10) (UInt8.ofNat (48 + m % 10) :: l) (by rw [Nat.pow_succ] at h; omega)
      rw [List.length_cons] at this
      omega
theorem mtx_size {k : Int} (hk : k ≤ 33554432) : (mtx k).size ≤ 20 := by
  unfold mtx
  split
  · show 2 ≤ 20; omega
  · show (109 :: mtN k.toNat []).toArray.size ≤ 20
    have := mtN_len 9 k.toNat [] (by have : k.toNat < 10 ^ 9 := by omega
                                     exact this)
    simp at this ⊢
    omega
theorem tmarks_fits {k : Int} {n : Nat} (h1 : k ≤ 16777216) (hn : n ≤ 1048576) : TFits (tmarks k n) := by
  intro x hx
  obtain ⟨i, hi, rfl⟩ := List.mem_map.1 hx
  have := List.mem_range.1 hi
  exact Nat.le_trans (mtx_size (by omega)) (by unfold maxLen; omega)
theorem grown_on {w w1 w2 : World} {b : Nat} (h : w.grownBy w1 (some b)) (k : Below w1.heap.size w1 w2) : w.grownBy w2 (some b) := h.trans ⟨k.1, k.2, k.3, k.4, fun j hj _ => k.5 j hj⟩
set_option maxHeartbeats 2000000 in
theorem lEqTexts (a a' : Option Addr) (len cap cap' : Nat) (xs : List ByteArray) (w : World) (hR : InT w a len cap xs) (hR' : InT w a' len cap' xs) :
    Calls Try.prog 25 #[.slice a len cap, .slice a' len cap'] w fun e w' => e = .returned (.bool true) ∧ Below w.heap.size w w' := by
  have hlen := hR.len
  go_enter Try.func25, Try.ntmps25
  go_wp2
  go_loopw [5] (fun a wr => ∃ k : Nat, k ≤ len ∧ a = .int .i64 k ∧ Below w.heap.size w wr) (fun b _ => len - (intOf b).toNat)
  case atStart => exact ⟨0, by omega, rfl, (by repeat (first | exact Below.refl _ _ | refine Below.drew ?_ | refine old_alloc ?_ _ | refine old_trans ?_ (by assumption)))⟩
  case round =>
    obtain ⟨k, hk, rfl, hb⟩ := hrel
    by_cases hlt : k < len
    · obtain ⟨b, off, x, rfl, hbl, hx, -, c0⟩ := (hR.old hb).at hlt
      obtain ⟨b', off', x', rfl, hbl', hx', -, c0'⟩ := (hR'.old hb).at hlt
      obtain rfl := hx.symm.trans hx'
      go_wp2_with fail
      go_region
      all_goals
        go_wp2
        go_roundw
        case rel => exact ⟨k + 1, by omega, by go_num, hb.drew⟩
        case measure => simp [intOf]; omega
    · obtain rfl : k = len := by omega
      go_wp2
      go_ret
      exact ⟨rfl, hb⟩
set_option maxHeartbeats 2000000 in
theorem lMarkRowT (b cap : Nat) (xs : List ByteArray) (k : Int) (w : World) (hr : TRow w b xs) (hl : xs.length ≤ 1048576) (k0 : 0 ≤ k) (k1 : k ≤ 16777216) :
    Calls Try.prog 28 #[.slice (some ⟨b, 0, none⟩) xs.length cap, .int .i64 k] w fun e w' => e = .returned (.int .i64 (k + xs.length)) ∧ TRow w' b (tmarks k xs.length) ∧ w.grownBy w' (some b) := by
  go_enter Try.func28, Try.ntmps28
  go_wp2
  go_loopw [1, 5] (fun s i wr => ∃ (j : Nat) (qs : List ByteArray), j ≤ xs.length ∧ s = .int .i64 (k + j) ∧ i = .int .i64 j ∧ TUpto j qs (tmarks k xs.length) ∧ TRow wr b qs ∧ w.grownBy wr (some b)) (fun _ b _ => xs.length - (intOf b).toNat)
  case atStart => exact ⟨0, xs, by omega, by simp, rfl, TUpto.zero (by rw [tmarks_length]), hr, World.grownBy.refl _ _⟩
  case round =>
    obtain ⟨j, qs, hj, rfl, rfl, hu, hrr, hg⟩ := hrel
    have hql : qs.length = xs.length := by rw [hu.1, tmarks_length]
    by_cases hlt : j < xs.length
    · have MT := hd (fun w' => lMarkText (k + j) (by omega) w')
      have hup := hu.step (by rw [tmarks_length]; omega)
      rw [tmarks_getD k hlt] at hup
      have hji : (j : Int) < (xs.length : Int) := by omega
      generalize mtx (k + j) = tx at *
      go_wp2_with fail
      refine (MT.out _).mono ?_
      rintro e w1 ⟨rfl, hb1⟩
      have hr1 := hrr.old hb1
      obtain ⟨x', -, d0, d2⟩ := hr1.at (k := j) (by omega)
      have hst := hr1.set j (by omega) tx
      go_wp2
      go_roundw
      case rel => exact ⟨j + 1, _, by omega, by go_num, by go_num, hup, hst, grown_set (grown_on hg hb1) _ _⟩
      case measure => simp [intOf]; omega
    · obtain rfl : j = xs.length := by omega
      have hq : qs = tmarks k xs.length := TUpto.all (by rw [tmarks_length]; exact hu)
      subst hq
      go_wp2
      go_ret
      exact ⟨rfl, hrr, hg⟩
set_option maxHeartbeats 1000000 in
theorem lMarkNoneT (a : Option Addr) (cap : Nat) (k : Int) (w : World) :
    Calls Try.prog 28 #[.slice a 0 cap, .int .i64 k] w fun e w' => e = .returned (.int .i64 k) ∧ w' = w := by
  go_enter Try.func28, Try.ntmps28
  go_wp2
  go_loopw [1, 5] (fun s i wr => s = .int .i64 k ∧ i = .int .i64 0 ∧ wr = w) (fun _ _ _ => 0)
  case atStart => exact ⟨rfl, rfl, rfl⟩
  case round =>
    obtain ⟨rfl, rfl, rfl⟩ := hrel
    go_wp2
    go_ret
    exact ⟨rfl, rfl⟩
theorem lEqTO (av av' : Option Addr) (cv cv' base base' : Nat) (xs : List ByteArray) (w : World) (h : OT w base av cv xs) (h' : OT w base' av' cv' xs) :
    Calls Try.prog 25 #[.slice av xs.length cv, .slice av' xs.length cv'] w fun e w' => e = .returned (.bool true) ∧ Below w.heap.size w w' :=
  lEqTexts av av' xs.length cv cv' xs w h.inT h'.inT
theorem lMarkTO (base : Nat) (av : Option Addr) (cv : Nat) (xs : List ByteArray) (k : Int) (w : World) (h : OT w base av cv xs) (hl : xs.length ≤ 1048576) (k0 : 0 ≤ k) (k1 : k ≤ 16777216) :
    Calls Try.prog 28 #[.slice av xs.length cv, .int .i64 k] w fun e w' => e = .returned (.int .i64 (k + xs.length)) ∧ OT w' base av cv (tmarks k xs.length) ∧ w.grownBy w' (ownB av) := by
  obtain ⟨h1, h2, h3, ⟨rfl, rfl⟩ | ⟨g, rfl, h4, h5⟩⟩ := h
  · refine (lMarkNoneT none cv k w).mono ?_
    rintro e w' ⟨rfl, rfl⟩
    exact ⟨by simp, ⟨by simpa [tmarks] using tfits_nil, by simp [tmarks], h3, .inl ⟨rfl, by simp [tmarks]⟩⟩, World.grownBy.refl _ _⟩
  · refine (lMarkRowT g cv xs k w h5 hl k0 k1).mono ?_
    rintro e w' ⟨rfl, hr, hg⟩
    exact ⟨rfl, ⟨tmarks_fits k1 hl, by rw [tmarks_length]; exact h2, h3, .inr ⟨g, rfl, h4, hr⟩⟩, hg⟩
end Go.Proofs.Ytmpckbgelkfgpaa

/- Nodes of terms that a function makes: their cells, lists that grow, lists of one's own, as laws mark them and find them held. Condition: 2^20 nodes at most where they are marked. -/
namespace Go.Proofs.Ytmpckbgelkfgpaa
open Go.RowKit
set_option linter.unusedVariables false
set_option maxRecDepth 100000

def Tn.vals (x : Tn) : List Value := [.int .i64 x.k, .int .i64 x.n, .string x.s]
def tnvs (xs : List Tn) : List Value := xs.flatMap Tn.vals
theorem tnvs_len (xs : List Tn) : (tnvs xs).length = xs.length * 3 := by
  induction xs with
  | nil => rfl
  | cons x xs ih => simp only [tnvs, List.flatMap_cons, List.length_append, List.length_cons] at ih ⊢; rw [ih]; simp only [Tn.vals, List.length_cons, List.length_nil]; omega
theorem tnvs_app (xs ys : List Tn) : tnvs (xs ++ ys) = tnvs xs ++ tnvs ys := List.flatMap_append
theorem tnvs_snoc (xs : List Tn) (x : Tn) : tnvs (xs ++ [x]) = tnvs xs ++ x.vals := by rw [tnvs_app]; simp [tnvs]
theorem tnvs_get : ∀ (xs : List Tn) (i j : Nat), i < xs.length → j < 3 → (tnvs xs)[i * 3 + j]? = (xs.getD i tn0).vals[j]?
  | [], i, j, h, _ => by simp at h
  | x :: xs, 0, j, _, hj => by
    simp only [tnvs, List.flatMap_cons]
    rw [List.getElem?_append_left (by simp only [Tn.vals, List.length_cons, List.length_nil]; omega)]
    simp
  | x :: xs, i + 1, j, h, hj => by
    have ih := tnvs_get xs i j (by simpa using h) hj
    simp only [tnvs, List.flatMap_cons] at ih ⊢
    rw [List.getElem?_append_right (by simp only [Tn.vals, List.length_cons, List.length_nil]; omega)]
    simp only [Tn.vals, List.length_cons, List.length_nil] at ih ⊢
    rw [show (i + 1) * 3 + j - (0 + 1 + 1 + 1) = i * 3 + j by omega, ih]
    simp
theorem tnvs_one (xs : List Tn) : ∀ u ∈ tnvs xs, u.oneCell' = true := by
  intro u hu
  obtain ⟨x, -, hx⟩ := List.mem_flatMap.1 hu
  simp only [Tn.vals, List.mem_cons, List.not_mem_nil, or_false] at hx
  rcases hx with rfl | rfl | rfl <;> rfl
/-- cells that hold such ones -/
theorem RowN.of_cs {w : World} {b : Nat} {xs : List Tn} (h : CS w b (tnvs xs)) : RowN w b xs := by
  refine ⟨h.lt, fun i hi => ?_⟩
  have c : ∀ j v, j < 3 → (xs.getD i tn0).vals[j]? = some v → w.cell? ⟨b, i * 3 + j, none⟩ = some v := fun j v hj hv => h.cell _ _ ((tnvs_get xs i j hi hj).trans hv)
  have f : ∀ j, j < 3 → w.frozen? ⟨b, i * 3 + j, none⟩ = false := fun j hj => h.froz _ (by rw [tnvs_len]; omega)
  exact ⟨⟨c 0 _ (by decide) rfl, c 1 _ (by decide) rfl, c 2 _ (by decide) rfl⟩, f 0 (by decide), f 1 (by decide), f 2 (by decide)⟩
theorem RowN.cs {w : World} {b : Nat} {xs : List Tn} (h : RowN w b xs) : CS w b (tnvs xs) := by
  have key : ∀ p, p < xs.length * 3 → ∃ i j, i < xs.length ∧ j < 3 ∧ p = i * 3 + j := fun p hp => ⟨p / 3, p % 3, by omega, by omega, by omega⟩
  have cl : ∀ i, i < xs.length → ∀ j, j < 3 → ∀ v, (xs.getD i tn0).vals[j]? = some v → w.cell? ⟨b, i * 3 + j, none⟩ = some v := fun i hi j hj v hv => by
    obtain ⟨⟨h0, h1, h2⟩, -⟩ := h.2 i hi
    have hj' : j = 0 ∨ j = 1 ∨ j = 2 := by omega
    rcases hj' with rfl | rfl | rfl
    · obtain rfl := Option.some.inj hv; exact h0
    · obtain rfl := Option.some.inj hv; exact h1
    · obtain rfl := Option.some.inj hv; exact h2
  have ff : ∀ i, i < xs.length → ∀ j, j < 3 → w.frozen? ⟨b, i * 3 + j, none⟩ = false := fun i hi j hj => by
    have hi2 := h.2 i hi
    have hj' : j = 0 ∨ j = 1 ∨ j = 2 := by omega
    rcases hj' with rfl | rfl | rfl
    · exact hi2.2.1
    · exact hi2.2.2.1
    · exact hi2.2.2.2
  refine ⟨fun p v hv => ?_, fun p hp => ?_, h.1⟩
  · have hp : p < (tnvs xs).length := (List.getElem?_eq_some_iff.1 hv).1
    obtain ⟨i, j, hi, hj, rfl⟩ := key p (by rw [tnvs_len] at hp; exact hp)
    exact cl i hi j hj v ((tnvs_get xs i j hi hj).symm.trans hv)
  · obtain ⟨i, j, hi, hj, rfl⟩ := key p (by rw [tnvs_len] at hp; exact hp)
    exact ff i hi j hj
theorem CS.keptTn {w w' : World} {c : Nat} {vs : List Value} {row : Option Nat} (h : CS w c vs) (g : w.grownBy w' row) (hne : some c ≠ row) : CS w' c vs := by
  have e := g.block c h.lt hne
  exact ⟨fun i v hi => (World.cell?_of_block (a := ⟨c, i, none⟩) e).trans (h.cell i v hi), fun i hi => (World.frozen?_of_block (a := ⟨c, i, none⟩) e).trans (h.froz i hi), Nat.lt_of_lt_of_le h.lt g.size⟩
theorem RowN.kept {w w' : World} {c : Nat} {xs : List Tn} {row : Option Nat} (h : RowN w c xs) (g : w.grownBy w' row) (hne : some c ≠ row) : RowN w' c xs := .of_cs (h.cs.keptTn g hne)
/-- a list that is being made -/
def TnGrows (w : World) (base : Nat) (v : Value) (xs : List Tn) : Prop := w.ownsRow base 104 3 v xs.length (tnvs xs)
theorem TnGrows.nil (w : World) (base : Nat) : TnGrows w base (.slice none 0 0) [] := World.ownsRow_nil w base _ _
theorem TnGrows.kept {w w' : World} {base : Nat} {v : Value} {xs : List Tn} {row : Option Nat} (h : TnGrows w base v xs) (g : w.grownBy w' row) (hne : ∀ b, row = some b → b < base) : TnGrows w' base v xs := by
  refine World.ownsRow.kept h g ?_
  cases hv : v.ownBlock with
  | none => exact .inl rfl
  | some k =>
    refine .inr (fun e => ?_)
    have := hne k e.symm
    have := (World.ownsRow.lt h k hv).1
    omega
theorem TnGrows.later {w w' : World} {base : Nat} {v : Value} {xs : List Tn} (h : TnGrows w base v xs) (g : Below w.heap.size w w') : TnGrows w' base v xs := h.kept (grown_below g) (by simp)
theorem TnGrows.alloc {w : World} {base : Nat} {v : Value} {xs : List Tn} (h : TnGrows w base v xs) (o : Obj) : TnGrows (w.alloc o) base v xs := h.later ((Below.refl _ _).alloc (Nat.le_refl _) o)
theorem TnGrows.drew {w : World} {base : Nat} {v : Value} {xs : List Tn} (h : TnGrows w base v xs) : TnGrows w.drew base v xs := h
theorem TnGrows.far {w : World} {base : Nat} {v : Value} {xs : List Tn} (h : TnGrows w base v xs) {c : Nat} (hc : c < base) : some c ≠ v.ownBlock := fun e => by have := (World.ownsRow.lt h c e.symm).1; omega
theorem TnGrows.row {w : World} {base : Nat} {v : Value} {xs : List Tn} (h : TnGrows w base v xs) (hp : 0 < xs.length) : ∃ g cap, v = .slice (some ⟨g, 0, none⟩) xs.length cap ∧ base ≤ g ∧ xs.length ≤ cap ∧ cap ≤ maxLen ∧ RowN w g xs := by
  have h' := h
  rcases h.2 with ⟨_, h0⟩ | ⟨g, cap, cur, rfl, hb, hg, h1, h2, -, -⟩
  · omega
  refine ⟨g, cap, rfl, hb, h1, h2, .of_cs ⟨fun p v hv => ?_, fun p _ => World.ownsRow.frozenAt h' p, (Array.getElem?_eq_some_iff.1 hg).1⟩⟩
  have hp : p < (tnvs xs).length := (List.getElem?_eq_some_iff.1 hv).1
  exact (World.ownsRow.cellAt h' p (by rw [tnvs_len] at hp; exact hp)).trans hv
theorem TnGrows.shape {w : World} {base : Nat} {v : Value} {xs : List Tn} (h : TnGrows w base v xs) : ∃ av cv, v = .slice av xs.length cv := by
  rcases h.2 with ⟨h0, h1⟩ | ⟨g, cap, cur, rfl, hb, hg, h1, h2, -, -⟩
  · exact ⟨none, 0, by rw [h0, h1]⟩
  · exact ⟨_, _, rfl⟩
def TnFits (xs : List Tn) : Prop := ∀ x ∈ xs, x.fit
theorem TnFits.nil : TnFits [] := fun p hp => absurd hp (by simp)
theorem TnFits.app {xs ys : List Tn} (h : TnFits xs) (k : TnFits ys) : TnFits (xs ++ ys) := fun x hx => (List.mem_append.1 hx).elim (h x) (k x)
theorem TnFits.one {x : Tn} (h : x.fit) : TnFits [x] := fun y hy => by rw [List.mem_singleton.1 hy]; exact h
/-- such ones in memory of their own, at or beyond base; or none -/
def OTn (w : World) (base : Nat) (av : Option Addr) (cv : Nat) (xs : List Tn) : Prop :=
  TnFits xs ∧ xs.length ≤ cv ∧ cv ≤ maxLen ∧ ((av = none ∧ xs = []) ∨ ∃ g, av = some ⟨g, 0, none⟩ ∧ base ≤ g ∧ RowN w g xs)
theorem OTn.none (w : World) (base : Nat) : OTn w base none 0 [] := ⟨TnFits.nil, Nat.le_refl _, Nat.zero_le _, .inl ⟨rfl, rfl⟩⟩
theorem TnGrows.o {w : World} {base : Nat} {v : Value} {xs : List Tn} (h : TnGrows w base v xs) (f : TnFits xs) : ∃ av cv, v = .slice av xs.length cv ∧ OTn w base av cv xs := by
  by_cases h0 : 0 < xs.length
  · obtain ⟨g, cap, rfl, h1, h2, h3, h4⟩ := h.row h0
    exact ⟨_, _, rfl, f, h2, h3, .inr ⟨g, rfl, h1, h4⟩⟩
  · obtain rfl : xs = [] := List.length_eq_zero_iff.1 (by omega)
    rcases h.2 with ⟨h1, _⟩ | ⟨g, cap, cur, rfl, hb, hg, h1, h2, -, -⟩
    · exact ⟨_, _, h1, TnFits.nil, Nat.le_refl _, Nat.zero_le _, .inl ⟨rfl, rfl⟩⟩
    · exact ⟨_, _, rfl, TnFits.nil, h1, h2, .inr ⟨g, rfl, hb, (Array.getElem?_eq_some_iff.1 hg).1, fun i hi => absurd hi (by simp)⟩⟩
section
variable {w w' : World} {base cv : Nat} {av : Option Addr} {ps : List Tn}
theorem OTn.inn (h : OTn w base av cv ps) : InN w av ps.length cv ps := by
  obtain ⟨h1, h2, h3, ⟨rfl, rfl⟩ | ⟨g, rfl, h4, h5⟩⟩ := h
  · exact ⟨rfl, h2, h3, h1, .inl rfl⟩
  · exact ⟨rfl, h2, h3, h1, .inr ⟨g, 0, rfl, h5.1, fun i hi => by rw [Nat.zero_add]; exact (h5.2 i hi).1⟩⟩
theorem OTn.mono {base' : Nat} (h : OTn w base av cv ps) (hb : base' ≤ base) : OTn w base' av cv ps := by
  obtain ⟨h1, h2, h3, h4 | ⟨g, h4, h5, h6⟩⟩ := h
  · exact ⟨h1, h2, h3, .inl h4⟩
  · exact ⟨h1, h2, h3, .inr ⟨g, h4, by omega, h6⟩⟩
theorem OTn.later (h : OTn w base av cv ps) (k : Below w.heap.size w w') : OTn w' base av cv ps := by
  obtain ⟨h1, h2, h3, h4 | ⟨g, h4, h5, h6⟩⟩ := h
  · exact ⟨h1, h2, h3, .inl h4⟩
  · exact ⟨h1, h2, h3, .inr ⟨g, h4, h5, h6.old k⟩⟩
theorem OTn.alloc (h : OTn w base av cv ps) (o : Obj) : OTn (w.alloc o) base av cv ps := h.later ((Below.refl _ _).alloc (Nat.le_refl _) o)
theorem OTn.drew (h : OTn w base av cv ps) : OTn w.drew base av cv ps := h
theorem OTn.kept {row : Option Nat} (h : OTn w base av cv ps) (g : w.grownBy w' row) (hne : ∀ q, av = some q → some q.block ≠ row) : OTn w' base av cv ps := by
  obtain ⟨h1, h2, h3, h4 | ⟨c, h4, h5, h6⟩⟩ := h
  · exact ⟨h1, h2, h3, .inl h4⟩
  · exact ⟨h1, h2, h3, .inr ⟨c, h4, h5, h6.kept g (hne _ h4)⟩⟩
theorem OTn.lt (h : OTn w base av cv ps) : ∀ q, av = some q → q.block < w.heap.size := by
  intro q e
  obtain ⟨h1, h2, h3, ⟨rfl, _⟩ | ⟨c, rfl, h5, h6⟩⟩ := h
  · cases e
  · cases e; exact h6.1
theorem OTn.ge (h : OTn w base av cv ps) : ∀ q, av = some q → base ≤ q.block := by
  intro q e
  obtain ⟨h1, h2, h3, ⟨rfl, _⟩ | ⟨c, rfl, h5, h6⟩⟩ := h
  · cases e
  · cases e; exact h5
end
theorem Below.markedTn {n : Nat} {w0 w w' : World} {base cv : Nat} {av : Option Addr} {ps : List Tn} (hb : Below n w0 w) (h : OTn w base av cv ps) (g : w.grownBy w' (ownB av)) (hn : n ≤ base) (h0 : n ≤ w.heap.size) : Below n w0 w' :=
  hb.grown g h0 (fun k e => by
    cases av with
    | none => cases e
    | some q => have := h.ge q rfl; simp [ownB] at e; omega)
/-- what a law's marks are -/
def tnmk (q : Int) : Tn := ⟨q, q + 1, mtx (q + 1 + 1)⟩
def tnmarks (k : Int) (n : Nat) : List Tn := (List.range n).map (fun (i : Nat) => tnmk (k + 3 * (i : Int)))
theorem tnmarks_len (k : Int) (n : Nat) : (tnmarks k n).length = n := by simp [tnmarks]
theorem tnmarks_getD (k : Int) {n i : Nat} (h : i < n) : (tnmarks k n).getD i tn0 = tnmk (k + 3 * (i : Int)) := by
  rw [List.getD_eq_getElem?_getD, tnmarks, List.getElem?_map, List.getElem?_range h]; rfl
theorem tnmarks_fits {k : Int} {n : Nat} (h0 : 0 ≤ k) (h1 : k ≤ 16777216) (hn : n ≤ 1048576) : TnFits (tnmarks k n) := by
  intro x hx
  obtain ⟨i, hi, rfl⟩ := List.mem_map.1 hx
  have := List.mem_range.1 hi
  unfold Tn.fit tnmk
  refine ⟨⟨by dsimp only; omega, by dsimp only; omega⟩, ⟨by dsimp only; omega, by dsimp only; omega⟩, Nat.le_trans (mtx_size (by omega)) (by unfold maxLen; omega)⟩
theorem tnmk_step {L : List Value} {k q : Int} {j : Nat} (hq : k + 3 * (j : Int) = q) (hj : j * 3 + 3 ≤ L.length) (h : ∀ i f, i < j → f < 3 → L[i * 3 + f]? = (tnmk (k + 3 * (i : Int))).vals[f]?) {L' : List Value}
    (hL : L' = (((L.set (j * 3) (.int .i64 (q))).set (j * 3 + 1) (.int .i64 (q + 1))).set (j * 3 + 2) (.string (mtx (q + 1 + 1))))) : ∀ i f, i < j + 1 → f < 3 → L'[i * 3 + f]? = (tnmk (k + 3 * (i : Int))).vals[f]? := by
  intro i f hi hf
  subst hL
  by_cases e : i = j
  · subst e
    rw [hq]
    have hf' : f = 0 ∨ f = 1 ∨ f = 2 := by omega
    rcases hf' with rfl | rfl | rfl <;> simp [tnmk, Tn.vals, show i * 3 < L.length ∧ i * 3 + 1 < L.length ∧ i * 3 + 2 < L.length from ⟨by omega, by omega, by omega⟩]
  · rw [← h i f (by omega) hf]
    rw [List.getElem?_set_ne (by omega), List.getElem?_set_ne (by omega), List.getElem?_set_ne (by omega)]
set_option maxHeartbeats 4000000 in
theorem lMarkRowTn (b cap : Nat) (xs : List Tn) (k : Int) (w : World) (hr : RowN w b xs) (hl : xs.length ≤ 1048576) (k0 : 0 ≤ k) (k1 : k ≤ 16777216) :
    Calls Try.prog 68 #[.slice (some ⟨b, 0, none⟩) xs.length cap, .int .i64 k] w fun e w' => e = .returned (.int .i64 (k + 3 * xs.length)) ∧ RowN w' b (tnmarks k xs.length) ∧ w.grownBy w' (some b) := by
  have hC0 := hr.cs
  have hL0 := tnvs_len xs
  clear hr
  generalize tnvs xs = L0 at *
  generalize xs.length = n at *
  go_enter Try.func68, Try.ntmps68
  go_wp2
  go_loopw [1, 5] (fun s i wr => ∃ (j : Nat) (L : List Value), j ≤ n ∧ s = .int .i64 (k + 3 * j) ∧ i = .int .i64 (j : Int) ∧ L.length = n * 3 ∧ CS wr b L ∧ Hid (∀ i f, i < j → f < 3 → L[i * 3 + f]? = (tnmk (k + 3 * (i : Int))).vals[f]?) ∧ w.grownBy wr (some b)) (fun _ i _ => n - (intOf i).toNat)
  case atStart => exact ⟨0, L0, by omega, by simp, rfl, hL0, hC0, fun i f h => by omega, World.grownBy.refl _ _⟩
  case round =>
    obtain ⟨j, L, hj, rfl, rfl, hL, hC, hu, hg⟩ := hrel
    by_cases hlt : j < n
    · have hji : (j : Int) < (n : Int) := by omega
      have hLj : j * 3 + 3 ≤ L.length := by omega
      obtain ⟨q, hq⟩ : ∃ q : Int, k + 3 * (j : Int) = q := ⟨_, rfl⟩
      have hqb : 0 ≤ q ∧ q ≤ 19922944 := by omega
      have hstep := hd (fun L' (hL' : _) => tnmk_step (L' := L') hq hLj hu.out hL')
      rw [hq]
      have hq' := hd hq
      clear hq hu
      have c0 := hC.cell (j * 3) _ (List.getElem?_eq_getElem (by omega))
      have f0 := hC.froz (j * 3) (by omega)
      generalize L[j * 3]'_ = u0 at c0
      have c1 := hC.cell (j * 3 + 1) _ (List.getElem?_eq_getElem (by omega))
      have f1 := hC.froz (j * 3 + 1) (by omega)
      generalize L[j * 3 + 1]'_ = u1 at c1
      have c2 := hC.cell (j * 3 + 2) _ (List.getElem?_eq_getElem (by omega))
      have f2 := hC.froz (j * 3 + 2) (by omega)
      generalize L[j * 3 + 2]'_ = u2 at c2
      have hC1 := (CS.stored (CS.stored hC (i := j * 3) (.int .i64 (q)) (by (try simp only [List.length_set]); omega)) (i := j * 3 + 1) (.int .i64 (q + 1)) (by (try simp only [List.length_set]); omega))
      have hg1 := (grown_set (grown_set hg (j * 3) (.int .i64 (q))) (j * 3 + 1) (.int .i64 (q + 1)))
      have hl1 : (((L.set (j * 3) (.int .i64 (q))).set (j * 3 + 1) (.int .i64 (q + 1)))).length = L.length := by simp only [List.length_set]
      have MT := hd (fun w' => lMarkText (q + 1 + 1) (by omega) w')
      generalize ((L.set (j * 3) (.int .i64 (q))).set (j * 3 + 1) (.int .i64 (q + 1))) = L1 at *
      generalize mtx (q + 1 + 1) = tx at *
      go_wp2_with fail
      generalize ((wr.setCell ⟨b, j * 3, none⟩ (.int .i64 (q))).setCell ⟨b, j * 3 + 1, none⟩ (.int .i64 (q + 1))) = w1 at *
      refine (MT.out _).mono ?_
      rintro e w2 ⟨rfl, hb2⟩
      have hC2 := hC1.later hb2
      have hg2 := grown_on hg1 hb2
      clear c0 f0 c1 f1 c2 f2 hC1 hg1 hC
      have d0 := hC2.cell (j * 3 + 2) _ (List.getElem?_eq_getElem (by omega))
      have e0 := hC2.froz (j * 3 + 2) (by omega)
      generalize L1[j * 3 + 2]'_ = v0 at d0
      have hC3 := hC2.stored (i := j * 3 + 2) (.string tx) (by omega)
      have hg3 := grown_set hg2 (j * 3 + 2) (.string tx)
      go_wp2
      go_roundw
      case rel => exact ⟨j + 1, _, by omega, by have := hq'.out; congr 1; omega, by go_num, by (try simp only [List.length_set]); omega, hC3, hstep.out _ rfl, hg3⟩
      case measure => simp [intOf]; omega
    · obtain rfl : j = n := by omega
      have hLL : L = tnvs (tnmarks k j) := by
        apply List.ext_getElem?
        intro p
        by_cases hp : p < j * 3
        · have hdm : p = p / 3 * 3 + p % 3 := by omega
          have h1 : p / 3 < j := by omega
          have h2 : p % 3 < 3 := by omega
          rw [hdm, tnvs_get _ _ _ (by rw [tnmarks_len]; exact h1) h2, tnmarks_getD k h1]
          exact hu.out _ _ h1 h2
        · rw [List.getElem?_eq_none (by omega), List.getElem?_eq_none (by rw [tnvs_len, tnmarks_len]; omega)]
      subst hLL
      go_wp2
      go_ret
      exact ⟨rfl, .of_cs hC, hg⟩
set_option maxHeartbeats 1000000 in
theorem lMarkNoneTn (a : Option Addr) (cap : Nat) (k : Int) (w : World) :
    Calls Try.prog 68 #[.slice a 0 cap, .int .i64 k] w fun e w' => e = .returned (.int .i64 k) ∧ w' = w := by
  go_enter Try.func68, Try.ntmps68
  go_wp2
  go_loopw [1, 5] (fun s i wr => s = .int .i64 k ∧ i = .int .i64 0 ∧ wr = w) (fun _ _ _ => 0)
  case atStart => exact ⟨rfl, rfl, rfl⟩
  case round =>
    obtain ⟨rfl, rfl, rfl⟩ := hrel
    go_wp2
    go_ret
    exact ⟨rfl, rfl⟩
theorem lMarkTnO (base : Nat) (av : Option Addr) (cv : Nat) (xs : List Tn) (k : Int) (w : World) (h : OTn w base av cv xs) (hl : xs.length ≤ 1048576) (k0 : 0 ≤ k) (k1 : k ≤ 16777216) :
    Calls Try.prog 68 #[.slice av xs.length cv, .int .i64 k] w fun e w' => e = .returned (.int .i64 (k + 3 * xs.length)) ∧ OTn w' base av cv (tnmarks k xs.length) ∧ w.grownBy w' (ownB av) := by
  obtain ⟨h1, h2, h3, ⟨rfl, rfl⟩ | ⟨g, rfl, h4, h5⟩⟩ := h
  · refine (lMarkNoneTn .none cv k w).mono ?_
    rintro e w' ⟨rfl, rfl⟩
    exact ⟨by simp, ⟨by simpa [tnmarks] using TnFits.nil, by simp [tnmarks], h3, .inl ⟨rfl, by simp [tnmarks]⟩⟩, World.grownBy.refl _ _⟩
  · refine (lMarkRowTn g cv xs k w h5 hl k0 k1).mono ?_
    rintro e w' ⟨rfl, hr, hg⟩
    exact ⟨rfl, ⟨tnmarks_fits k0 k1 hl, by rw [tnmarks_len]; exact h2, h3, .inr ⟨g, rfl, h4, hr⟩⟩, hg⟩
set_option maxHeartbeats 4000000 in
theorem lHeldTns (a : Option Addr) (cap n : Nat) (k : Int) (w : World) (hR : InN w a n cap (tnmarks k n)) (hl : n ≤ 1048576) (k0 : 0 ≤ k) (k1 : k ≤ 16777216) :
    Calls Try.prog 70 #[.slice a n cap, .int .i64 k] w fun e w' => e = .returned (.int .i64 (k + 3 * n)) ∧ Below w.heap.size w w' := by
  go_enter Try.func70, Try.ntmps70
  go_wp2
  go_loopw [1, 5] (fun s i wr => ∃ j : Nat, j ≤ n ∧ s = .int .i64 (k + 3 * j) ∧ i = .int .i64 (j : Int) ∧ Below w.heap.size w wr) (fun _ b _ => n - (intOf b).toNat)
  case atStart => exact ⟨0, by omega, by simp, rfl, Below.refl _ _⟩
  case round =>
    obtain ⟨i, hj, rfl, rfl, hb⟩ := hrel
    by_cases hlt : i < n
    · obtain ⟨bl, off, x0, x1, x2, rfl, hbl, hx, -, c0, c1, c2⟩ := (hR.old hb).at hlt
      rw [tnmarks_getD k hlt] at hx
      have hji : (i : Int) < (n : Int) := by omega
      obtain ⟨q, hq⟩ : ∃ q : Int, k + 3 * (i : Int) = q := ⟨_, rfl⟩
      have hqb : 0 ≤ q ∧ q ≤ 19922944 := by omega
      rw [hq] at hx
      rw [hq]
      have hq' := hd hq
      clear hq
      unfold tnmk at hx
      obtain ⟨rfl, rfl, hs⟩ := Tn.mk.inj hx
      clear hx
      have MT := hd (fun w' => lMarkText (q + 1 + 1) (by omega) w')
      rw [hs] at MT
      clear hs
      go_wp2_with fail
      go_region_held3 (fun w' => w'.cell? ⟨bl, off + i * 3 + 2, none⟩ = some (.string x2)) (go_keep) (first | (go_at_call 69; refine (MT.out _).mono ?_; rintro e w1 ⟨rfl, hb1⟩; have hz1 : Below wr.heap.size wr w1 := (by repeat (first | exact Below.refl _ _ | refine Below.drew ?_ | refine old_alloc ?_ _ | refine old_trans ?_ (by assumption))); have c2 := cell_later hz1 c2))
      all_goals
        have hbz := old_trans hb hz1
        go_wp2
        go_roundw
        case rel => exact ⟨i + 1, by omega, by have := hq'.out; congr 1; omega, by go_num, by first | exact hbz | exact hbz.drew⟩
        case measure => simp [intOf]; omega
    · obtain rfl : i = n := by omega
      go_wp2
      go_ret
      exact ⟨rfl, hb⟩
theorem lHeldTnO (base : Nat) (av : Option Addr) (cv n : Nat) (k : Int) (w : World) (h : OTn w base av cv (tnmarks k n)) (hl : n ≤ 1048576) (k0 : 0 ≤ k) (k1 : k ≤ 16777216) :
    Calls Try.prog 70 #[.slice av n cv, .int .i64 k] w fun e w' => e = .returned (.int .i64 (k + 3 * n)) ∧ Below w.heap.size w w' := by
  have hI := h.inn
  rw [tnmarks_len] at hI
  exact lHeldTns av cv n k w hI hl k0 k1
end Go.Proofs.Ytmpckbgelkfgpaa

/- A law's lists of texts: how they are opened, measured, copied. Conditions: copies of 2^20 texts at most. -/
namespace Go.Proofs.Ytmpckbgelkfgpaa
open Go.ChangeShapes Go.WideShapes Go.ChangeAt Go.RowKit
set_option linter.unusedVariables false
set_option maxRecDepth 100000

section
variable {H : Type} {enc : TypeId × Value → H} {w : World} {base : Nat}
set_option maxRecDepth 100000 in
theorem open_ltexts {r : Reach} {b0 : Nat} {v : Value} {d : DataW H} {p : List MemPlace} (hv : Value.okWide Try.prog w r b0 42 v) (h : DataW.Trod enc Try.prog w base (fun _ => true) true 42 v d p) :
    ∃ (a : Option Addr) (len cap : Nat) (xs : List ByteArray), v = .slice a len cap ∧ InT w a len cap xs := by
  obtain ⟨a0, l0, c0, rfl⟩ := okWide_slice Try.underlying42 hv
  obtain ⟨n, h1⟩ := h
  replace h1 : DataW.trod enc Try.prog w base (fun _ => true) true n 42 [.slice a0 l0 c0] = some (d, p) := h1
  rcases Deep.open_slice Try.underlying42 h1 with ⟨hc, -⟩ | ⟨a, len, cap, m, k, D, Pl, hc, hb, hl, hm, hmm, -, hx⟩
  · simp at hc
    obtain ⟨rfl, rfl, rfl⟩ := hc
    exact ⟨none, 0, 0, [], rfl, rfl, Nat.le_refl _, Nat.zero_le _, fun x hx => absurd hx (by simp), .inl rfl⟩
  simp at hc
  obtain ⟨rfl, rfl, rfl⟩ := hc
  simp at hmm
  subst hmm
  have ce : Try.prog.cellsOf 9 = 1 := by kernel_rfl
  rw [ce] at hx
  have hz : ∀ i, ∃ s : ByteArray, i < m → s.size ≤ maxLen ∧ w.cells? base (a.add (i * 1)) 1 = some [.string s] := by
    intro i
    by_cases hi : i < m
    · obtain ⟨cs', hcs, ht⟩ := hx i hi
      obtain ⟨s, e0, -, w0⟩ := DataW.trod_string Try.underlying9 ht
      subst e0
      exact ⟨s, fun _ => ⟨w0, hcs⟩⟩
    · exact ⟨⟨#[]⟩, fun h => absurd h hi⟩
  obtain ⟨f, hff⟩ := Classical.axiomOfChoice hz
  refine ⟨some a, l0, m, (List.range l0).map f, rfl, by simp, hl, hm, ?_, ?_⟩
  · intro q hq
    obtain ⟨i, hi, rfl⟩ := List.mem_map.1 hq
    exact (hff i (by have := List.mem_range.1 hi; omega)).1
  by_cases h0 : l0 = 0
  · exact .inl h0
  obtain ⟨b, off, spot⟩ := a
  have e0 : w.cell? ((⟨b, off, spot⟩ : Addr).add (0 * 1) |>.add 0) = _ := (World.cells?_some (hff 0 (by omega)).2).2.2 0 (by omega)
  have hspot : spot = none := by simpa [Addr.add] using World.cell?_spot e0
  subst hspot
  refine .inr ⟨b, off, rfl, by simpa [Addr.add] using World.block_lt_of_cell? w _ e0, fun i hi => ?_⟩
  have ad : ∀ o j, (⟨b, o, none⟩ : Addr).add j = ⟨b, o + j, none⟩ := by
    intro o j
    by_cases h : j = 0
    · subst h; simp [Addr.add]
    · simp [Addr.add, h]
  have q0 := (World.cells?_some (hff i (by omega)).2).2.2 0 (by omega)
  rw [ad, ad] at q0
  have eg : ((List.range l0).map f).getD i ⟨#[]⟩ = f i := by
    rw [List.getD_eq_getElem?_getD, List.getElem?_map, List.getElem?_range hi]; rfl
  rw [eg]
  simpa using q0
end
set_option maxHeartbeats 2000000 in
theorem lSzTexts (a : Option Addr) (len cap : Nat) (xs : List ByteArray) (l : Int) (h0 : 0 ≤ l) (h1 : l ≤ 1048576) (w : World) (hR : InT w a len cap xs) :
    Calls Try.prog 17 #[.slice a len cap, .int .i64 l] w fun e w' => (∃ r : Int, e = .returned (.int .i64 r) ∧ (r = -1 ∨ (0 ≤ r ∧ r ≤ l - len))) ∧ Below w.heap.size w w' := by
  have hlen : len ≤ maxLen := Nat.le_trans hR.2.1 hR.2.2.1
  unfold maxLen at hlen
  by_cases hl : (len : Int) ≤ l
  case neg =>
    go_enter Try.func17, Try.ntmps17
    go_wp2
    go_ret
    exact ⟨⟨_, rfl, .inl rfl⟩, (by repeat (first | exact Below.refl _ _ | refine Below.drew ?_ | refine old_alloc ?_ _ | refine old_trans ?_ (by assumption)))⟩
  go_enter Try.func17, Try.ntmps17
  go_wp2
  go_loopw [1, 5] (fun s i wr => ∃ (j : Nat) (r : Int), j ≤ len ∧ i = .int .i64 j ∧ s = .int .i64 r ∧ 0 ≤ r ∧ r ≤ l - len ∧ Below w.heap.size w wr) (fun _ i _ => len - (intOf i).toNat)
  case atStart => exact ⟨0, l - len, by omega, rfl, rfl, by omega, by omega, (by repeat (first | exact Below.refl _ _ | refine Below.drew ?_ | refine old_alloc ?_ _ | refine old_trans ?_ (by assumption)))⟩
  case round =>
    obtain ⟨j, r, hk, rfl, rfl, hr0, hr1, hb⟩ := hrel
    by_cases hlt : j < len
    · obtain ⟨b, off, x, rfl, hbl, hx, hsz, c0⟩ := (hR.old hb).at hlt
      unfold maxLen at hsz
      clear hx
      by_cases c : (x.size : Int) ≤ r
      · have c' : 0 ≤ r - x.size := by omega
        have c'' : r - x.size ≤ l - len := by omega
        go_wp2
        go_roundw
        case rel => exact ⟨j + 1, r - x.size, by omega, by go_num, by go_num, c', c'', hb⟩
        case measure => simp [intOf]; omega
      · go_wp2
        go_ret
        exact ⟨⟨_, rfl, .inl rfl⟩, hb⟩
    · obtain rfl : j = len := by omega
      go_wp2
      go_ret
      exact ⟨⟨_, rfl, .inr ⟨hr0, hr1⟩⟩, hb⟩
theorem TRow.made (w : World) (n : Nat) (t : TypeId) : TRow (w.alloc (.cells (madeCells #[.string ⟨#[]⟩] (n * 1)) t)) w.heap.size (List.replicate n ⟨#[]⟩) := by
  refine ⟨by simp, fun i hi => ?_⟩
  rw [List.length_replicate] at hi
  have eg : (List.replicate n (⟨#[]⟩ : ByteArray)).getD i ⟨#[]⟩ = ⟨#[]⟩ := by simp [List.getD_eq_getElem?_getD, hi]
  rw [eg]
  have e0 : (madeCells #[Value.string ⟨#[]⟩] (n * 1))[i]? = some (.string ⟨#[]⟩) := by
    simp [madeCells, show i < n by omega, Nat.mod_one]
  exact ⟨by simpa using e0, by simp⟩
theorem infoStr : (Try.prog.info? 9).map (fun i => (i.zero, i.size, i.bytes)) = some (some (.string ⟨#[]⟩), 1, 16) := by kernel_rfl
theorem mkTexts (w : World) (n : Nat) (hn : n ≤ 1048576) : (Instr.makeSlice 42 (.int .i64 (n : Int)) (.int .i64 (n : Int))).run Try.prog w = .ok (.slice (some ⟨w.heap.size, 0, none⟩) n n) (w.alloc (.cells (madeCells #[.string ⟨#[]⟩] (n * 1)) 9)) := by
  obtain ⟨i, h1, h2, h3, h4⟩ := info_parts infoStr
  have h := run_make (P := Try.prog) w 42 9 i _ Try.underlying42 h1 h2 .i64 .i64 n n (by omega) (by omega) (by rw [h4]; omega) (by omega)
  rw [h3] at h
  exact h
set_option maxHeartbeats 2000000 in
theorem lToTexts (a : Option Addr) (len cap : Nat) (xs : List ByteArray) (w : World) (hR : InT w a len cap xs) (hl : len ≤ 1048576) :
    Calls Try.prog 21 #[.slice a len cap] w fun e w' => (e = .returned (.slice (some ⟨w.heap.size, 0, none⟩) len len) ∧ TRow w' w.heap.size xs) ∧ Below w.heap.size w w' := by
  have hmk := mkTexts w len hl
  have hr0 := TRow.made w len 9
  have hb0 : Below w.heap.size w (w.alloc (.cells (madeCells #[.string ⟨#[]⟩] (len * 1)) 9)) := (Below.refl _ w).alloc (Nat.le_refl _) _
  generalize w.alloc (.cells (madeCells #[.string ⟨#[]⟩] (len * 1)) 9) = w0 at *
  have hp := hR.1
  go_enter Try.func21, Try.ntmps21
  go_wp2
  go_loopw [4] (fun a wr => ∃ (k : Nat) (qs : List ByteArray), k ≤ len ∧ a = .int .i64 k ∧ TUpto k qs xs ∧ TRow wr w.heap.size qs ∧ Below w.heap.size w wr) (fun b _ => len - (intOf b).toNat)
  case atStart => exact ⟨0, _, by omega, rfl, TUpto.zero (by simp [hp]), hr0, hb0⟩
  case round =>
    obtain ⟨k, qs, hk, rfl, hu, hr, hb⟩ := hrel
    by_cases hlt : k < len
    · obtain ⟨b, off, x, rfl, hbl, hx, -, c0⟩ := (hR.old hb).at hlt
      obtain ⟨y, hy, d0, f0⟩ := hr.at (k := k) (by rw [hu.1]; omega)
      replace hx := hd hx
      clear hy
      go_wp2
      go_roundw
      case rel =>
        refine ⟨k + 1, _, by omega, by go_num, hu.step (by omega), ?_, ?_⟩
        · rw [hx.out]; exact hr.set k (by rw [hu.1]; omega) x
        · exact hb.setCell (p := ⟨w.heap.size, k, none⟩) (Nat.le_refl _) _
      case measure => simp [intOf]; omega
    · obtain rfl : k = len := by omega
      go_wp2
      go_ret
      subst hp
      exact ⟨⟨rfl, by rw [← hu.all]; exact hr⟩, hb⟩
theorem toTextsO (a : Option Addr) (cap : Nat) (xs : List ByteArray) (w : World) (hR : InT w a xs.length cap xs) (hl : xs.length ≤ 1048576) :
    Calls Try.prog 21 #[.slice a xs.length cap] w fun e w' => (∃ av cv, e = .returned (.slice av xs.length cv) ∧ OT w' w.heap.size av cv xs) ∧ Below w.heap.size w w' := by
  refine (lToTexts a xs.length cap xs w hR hl).mono ?_
  rintro e w' ⟨⟨rfl, hr⟩, h⟩
  exact ⟨⟨_, _, rfl, hR.2.2.2.1, Nat.le_refl _, Nat.le_trans hR.2.1 hR.2.2.1, .inr ⟨_, rfl, Nat.le_refl _, hr⟩⟩, h⟩
end Go.Proofs.Ytmpckbgelkfgpaa
