/- How many parts a node of a term is made of, of both sides. Nothing that was there is written. No condition. -/
import Derived.Test.YtmpckbgelkfgpaaPK01
import Derived.Test.YtmpckbgelkfgpaaPK02
import Derived.Deep.RegionHeld3
import Derived.Lib.SmallJoins
namespace Go.Proofs.Ytmpckbgelkfgpaa
open Go.RowKit
set_option linter.unusedVariables false
set_option maxRecDepth 100000

theorem six_oldN {w' w'' : World} {b b' o0 o1 o2 p0 p1 p2 : Nat} {v0 v1 v2 v3 v4 v5 : Value} (hS : w'.cell? ⟨b, o0, none⟩ = some v0 ∧ w'.cell? ⟨b, o1, none⟩ = some v1 ∧ w'.cell? ⟨b, o2, none⟩ = some v2 ∧ w'.cell? ⟨b', p0, none⟩ = some v3 ∧ w'.cell? ⟨b', p1, none⟩ = some v4 ∧ w'.cell? ⟨b', p2, none⟩ = some v5) (k : Below w'.heap.size w' w'') :
    w''.cell? ⟨b, o0, none⟩ = some v0 ∧ w''.cell? ⟨b, o1, none⟩ = some v1 ∧ w''.cell? ⟨b, o2, none⟩ = some v2 ∧ w''.cell? ⟨b', p0, none⟩ = some v3 ∧ w''.cell? ⟨b', p1, none⟩ = some v4 ∧ w''.cell? ⟨b', p2, none⟩ = some v5 := by
  obtain ⟨a1, a2, a3, a4, a5, a6⟩ := hS
  exact ⟨(k.cell (World.block_lt_of_cell? _ _ a1)).trans a1, (k.cell (World.block_lt_of_cell? _ _ a2)).trans a2, (k.cell (World.block_lt_of_cell? _ _ a3)).trans a3, (k.cell (World.block_lt_of_cell? _ _ a4)).trans a4, (k.cell (World.block_lt_of_cell? _ _ a5)).trans a5, (k.cell (World.block_lt_of_cell? _ _ a6)).trans a6⟩
set_option maxHeartbeats 1000000 in
theorem lEqNode (x y : Int) (s : ByteArray) (w : World) :
    Calls Try.prog 105 #[.agg #[.int .i64 x, .int .i64 y, .string s], .agg #[.int .i64 x, .int .i64 y, .string s]] w fun e w' => e = .returned (.bool true) ∧ Below w.heap.size w w' := by
  go_enter Try.func105, Try.ntmps105
  go_wp2
  go_ret
  exact ⟨rfl, (by repeat (first | exact Below.refl _ _ | refine Below.drew ?_ | refine old_alloc ?_ _ | refine old_trans ?_ (by assumption)))⟩
set_option maxHeartbeats 2000000 in
theorem lEqNodes (a a' : Option Addr) (len cap cap' : Nat) (xs : List Tn) (w : World) (hR : InN w a len cap xs) (hR' : InN w a' len cap' xs) :
    Calls Try.prog 67 #[.slice a len cap, .slice a' len cap'] w fun e w' => e = .returned (.bool true) ∧ Below w.heap.size w w' := by
  have hlen : len ≤ maxLen := Nat.le_trans hR.2.1 hR.2.2.1
  unfold maxLen at hlen
  go_enter Try.func67, Try.ntmps67
  go_wp2
  go_loopw [5] (fun a wr => ∃ k : Nat, k ≤ len ∧ a = .int .i64 k ∧ Below w.heap.size w wr) (fun b _ => len - (intOf b).toNat)
  case atStart => exact ⟨0, by omega, rfl, (by repeat (first | exact Below.refl _ _ | refine Below.drew ?_ | refine old_alloc ?_ _ | refine old_trans ?_ (by assumption)))⟩
  case round =>
    obtain ⟨k, hk, rfl, hb⟩ := hrel
    by_cases hlt : k < len
    · obtain ⟨b, off, x, y, s, rfl, hbl, hx, -, c0, c1, c2⟩ := (hR.old hb).at hlt
      obtain ⟨b', off', x', y', s', rfl, hbl', hx', -, c0', c1', c2'⟩ := (hR'.old hb).at hlt
      obtain ⟨rfl, rfl, rfl⟩ := Tn.mk.inj (hx.symm.trans hx')
      clear hx hx'
      have E := hd (lEqNode x y s)
      go_wp2_with fail
      have U := hd (fun w' (hS : w'.cell? ⟨b, off + k * 3, none⟩ = some (.int .i64 x) ∧ w'.cell? ⟨b, off + k * 3 + 1, none⟩ = some (.int .i64 y) ∧ w'.cell? ⟨b, off + k * 3 + 2, none⟩ = some (.string s) ∧ w'.cell? ⟨b', off' + k * 3, none⟩ = some (.int .i64 x) ∧ w'.cell? ⟨b', off' + k * 3 + 1, none⟩ = some (.int .i64 y) ∧ w'.cell? ⟨b', off' + k * 3 + 2, none⟩ = some (.string s)) => (E.out w').mono (fun e w'' (q : _ ∧ _) => (⟨q, six_oldN hS q.2⟩ : (_ ∧ _) ∧ (w''.cell? ⟨b, off + k * 3, none⟩ = some (.int .i64 x) ∧ w''.cell? ⟨b, off + k * 3 + 1, none⟩ = some (.int .i64 y) ∧ w''.cell? ⟨b, off + k * 3 + 2, none⟩ = some (.string s) ∧ w''.cell? ⟨b', off' + k * 3, none⟩ = some (.int .i64 x) ∧ w''.cell? ⟨b', off' + k * 3 + 1, none⟩ = some (.int .i64 y) ∧ w''.cell? ⟨b', off' + k * 3 + 2, none⟩ = some (.string s)))))
      go_region_held3 (fun w' => w'.cell? ⟨b, off + k * 3, none⟩ = some (.int .i64 x) ∧ w'.cell? ⟨b, off + k * 3 + 1, none⟩ = some (.int .i64 y) ∧ w'.cell? ⟨b, off + k * 3 + 2, none⟩ = some (.string s) ∧ w'.cell? ⟨b', off' + k * 3, none⟩ = some (.int .i64 x) ∧ w'.cell? ⟨b', off' + k * 3 + 1, none⟩ = some (.int .i64 y) ∧ w'.cell? ⟨b', off' + k * 3 + 2, none⟩ = some (.string s)) (go_keep) (first | (go_at_call 105; with_reducible refine (U.out _ (by assumption)).mono ?_; rintro e w1 ⟨⟨rfl, hb1⟩, hc1⟩))
      all_goals
        have hB : Below w.heap.size w w1 := hb.drew.trans (hb1.mono hb.size)
        go_wp2
        go_roundw
        case rel => exact ⟨k + 1, by omega, by go_num, hB⟩
        case measure => simp [intOf]; omega
    · obtain rfl : k = len := by omega
      go_wp2
      go_ret
      exact ⟨rfl, hb⟩
set_option maxHeartbeats 1000000 in
theorem lEqTerm (a a' : Option Addr) (len cap cap' : Nat) (xs : List Tn) (w : World) (hR : InN w a len cap xs) (hR' : InN w a' len cap' xs) :
    Calls Try.prog 24 #[.agg #[.slice a len cap], .agg #[.slice a' len cap']] w fun e w' => e = .returned (.bool true) ∧ Below w.heap.size w w' := by
  have e0 : Below w.heap.size w ((w.alloc (.cells #[.slice a len cap] 49)).alloc (.cells #[.slice a' len cap'] 49)) := old_alloc (old_alloc (Below.refl _ _) _) _
  have E := hd (lEqNodes a a' len cap cap' xs _ (hR.old e0) (hR'.old e0))
  clear hR hR'
  go_enter Try.func24, Try.ntmps24
  go_wp2_with fail
  refine E.out.mono ?_
  rintro e w1 ⟨rfl, hb1⟩
  go_wp2
  go_ret
  exact ⟨rfl, old_trans e0 hb1⟩
end Go.Proofs.Ytmpckbgelkfgpaa

/- Lists of nodes of a graph in memory: where they lie, how a law opens, copies and compares them. No condition. -/
namespace Go.Proofs.Ytmpckbgelkfgpaa
open Go.RowKit
set_option linter.unusedVariables false
set_option maxRecDepth 100000

structure Gn where
  k : Int
  u : Int
  v : Int
  n : Int
  s : ByteArray
def gn0 : Gn := ⟨0, 0, 0, 0, ⟨#[]⟩⟩
def Gn.fit (x : Gn) : Prop := (-9223372036854775808 ≤ x.k ∧ x.k ≤ 9223372036854775807) ∧ (-9223372036854775808 ≤ x.u ∧ x.u ≤ 9223372036854775807) ∧ (-9223372036854775808 ≤ x.v ∧ x.v ≤ 9223372036854775807) ∧ (-9223372036854775808 ≤ x.n ∧ x.n ≤ 9223372036854775807) ∧ x.s.size ≤ maxLen
def GnC (w : World) (b o : Nat) (x : Gn) : Prop := w.cell? ⟨b, o, none⟩ = some (.int .i64 x.k) ∧ w.cell? ⟨b, o + 1, none⟩ = some (.int .i64 x.u) ∧ w.cell? ⟨b, o + 2, none⟩ = some (.int .i64 x.v) ∧ w.cell? ⟨b, o + 3, none⟩ = some (.int .i64 x.n) ∧ w.cell? ⟨b, o + 4, none⟩ = some (.string x.s)
def InGn (w : World) (a : Option Addr) (len cap : Nat) (xs : List Gn) : Prop :=
  xs.length = len ∧ len ≤ cap ∧ cap ≤ maxLen ∧ (∀ x ∈ xs, x.fit) ∧
  (len = 0 ∨ ∃ b off : Nat, a = some ⟨b, off, none⟩ ∧ b < w.heap.size ∧ ∀ i, i < len → GnC w b (off + i * 5) (xs.getD i gn0))
theorem GnC.old {w w' : World} {b o : Nat} {x : Gn} (h : GnC w b o x) (k : Below w.heap.size w w') (hb : b < w.heap.size) : GnC w' b o x := by
  obtain ⟨h0, h1, h2, h3, h4⟩ := h
  exact ⟨(k.cell (p := ⟨b, o, none⟩) hb).trans h0, (k.cell (p := ⟨b, o + 1, none⟩) hb).trans h1, (k.cell (p := ⟨b, o + 2, none⟩) hb).trans h2, (k.cell (p := ⟨b, o + 3, none⟩) hb).trans h3, (k.cell (p := ⟨b, o + 4, none⟩) hb).trans h4⟩
theorem InGn.old {w w' : World} {a : Option Addr} {len cap : Nat} {xs : List Gn} (h : InGn w a len cap xs) (b : Below w.heap.size w w') : InGn w' a len cap xs := by
  obtain ⟨h1, h2, h3, h4, h5⟩ := h
  refine ⟨h1, h2, h3, h4, ?_⟩
  rcases h5 with h5 | ⟨bb, off, q1, q2, q3⟩
  · exact .inl h5
  · exact .inr ⟨bb, off, q1, Nat.lt_of_lt_of_le q2 b.size, fun i hi => (q3 i hi).old b q2⟩
theorem InGn.al {w : World} {a : Option Addr} {len cap : Nat} {xs : List Gn} (h : InGn w a len cap xs) (o : Obj) : InGn (w.alloc o) a len cap xs := h.old ((Below.refl _ _).alloc (Nat.le_refl _) o)
theorem InGn.dr {w : World} {a : Option Addr} {len cap : Nat} {xs : List Gn} (h : InGn w a len cap xs) : InGn w.drew a len cap xs := h
theorem getD_memGn {xs : List Gn} {k : Nat} (hk : k < xs.length) : xs.getD k gn0 ∈ xs := by
  have e2 : xs.getD k gn0 = xs[k]'hk := by rw [List.getD_eq_getElem?_getD, List.getElem?_eq_getElem hk]; rfl
  rw [e2]
  exact List.getElem_mem _
theorem InGn.at {w : World} {a : Option Addr} {len cap : Nat} {xs : List Gn} (h : InGn w a len cap xs) {i : Nat} (hi : i < len) : ∃ (bl off : Nat) (k : Int) (u : Int) (v : Int) (n : Int) (s : ByteArray), a = some ⟨bl, off, none⟩ ∧ bl < w.heap.size ∧ xs.getD i gn0 = ⟨k, u, v, n, s⟩ ∧ Gn.fit ⟨k, u, v, n, s⟩ ∧ w.cell? ⟨bl, off + i * 5, none⟩ = some (.int .i64 k) ∧ w.cell? ⟨bl, off + i * 5 + 1, none⟩ = some (.int .i64 u) ∧ w.cell? ⟨bl, off + i * 5 + 2, none⟩ = some (.int .i64 v) ∧ w.cell? ⟨bl, off + i * 5 + 3, none⟩ = some (.int .i64 n) ∧ w.cell? ⟨bl, off + i * 5 + 4, none⟩ = some (.string s) := by
  rcases h.2.2.2.2 with h0 | ⟨b, off, e, hb, hc⟩
  · omega
  · have hl := h.1
    have q := hc i hi
    exact ⟨b, off, _, _, _, _, _, e, hb, rfl, h.2.2.2.1 _ (getD_memGn (by omega)), q⟩
/-- such ones in a block of their own -/
def RowGn (w : World) (b : Nat) (xs : List Gn) : Prop :=
  b < w.heap.size ∧ ∀ i, i < xs.length → GnC w b (i * 5) (xs.getD i gn0) ∧ ∀ j, j < 5 → w.frozen? ⟨b, i * 5 + j, none⟩ = false
theorem RowGn.old {w w' : World} {b : Nat} {xs : List Gn} (h : RowGn w b xs) (k : Below w.heap.size w w') : RowGn w' b xs :=
  ⟨Nat.lt_of_lt_of_le h.1 k.size, fun i hi => ⟨(h.2 i hi).1.old k h.1, fun j hj => (k.frozen (p := ⟨b, i * 5 + j, none⟩) h.1).trans ((h.2 i hi).2 j hj)⟩⟩
theorem RowGn.inGn {w : World} {b cap : Nat} {xs : List Gn} (h : RowGn w b xs) (f : ∀ x ∈ xs, x.fit) (h1 : xs.length ≤ cap) (h2 : cap ≤ maxLen) : InGn w (some ⟨b, 0, none⟩) xs.length cap xs :=
  ⟨rfl, h1, h2, f, .inr ⟨b, 0, rfl, h.1, fun i hi => by rw [Nat.zero_add]; exact (h.2 i hi).1⟩⟩
theorem RowGn.at {w : World} {b : Nat} {xs : List Gn} (h : RowGn w b xs) {i : Nat} (hi : i < xs.length) : ∃ (k : Int) (u : Int) (v : Int) (n : Int) (s : ByteArray), w.cell? ⟨b, i * 5, none⟩ = some (.int .i64 k) ∧ w.cell? ⟨b, i * 5 + 1, none⟩ = some (.int .i64 u) ∧ w.cell? ⟨b, i * 5 + 2, none⟩ = some (.int .i64 v) ∧ w.cell? ⟨b, i * 5 + 3, none⟩ = some (.int .i64 n) ∧ w.cell? ⟨b, i * 5 + 4, none⟩ = some (.string s) ∧ w.frozen? ⟨b, i * 5, none⟩ = false ∧ w.frozen? ⟨b, i * 5 + 1, none⟩ = false ∧ w.frozen? ⟨b, i * 5 + 2, none⟩ = false ∧ w.frozen? ⟨b, i * 5 + 3, none⟩ = false ∧ w.frozen? ⟨b, i * 5 + 4, none⟩ = false := by
  obtain ⟨h0, h1, h2, h3, h4⟩ := (h.2 i hi).1
  have f := (h.2 i hi).2
  exact ⟨_, _, _, _, _, h0, h1, h2, h3, h4, f 0 (by decide), f 1 (by decide), f 2 (by decide), f 3 (by decide), f 4 (by decide)⟩
theorem cellGn_other (W : World) (b b' i j : Nat) (v : Value) (hn : b ≠ b' ∨ i ≠ j) : (W.setCell ⟨b', j, none⟩ v).cell? ⟨b, i, none⟩ = W.cell? ⟨b, i, none⟩ := World.cell?_setCell_other _ _ _ _ (by intro h; injection h with h1 h2; omega)
theorem RowGn.set {w : World} {b : Nat} {xs : List Gn} (h : RowGn w b xs) (k : Nat) (hk : k < xs.length) (x : Gn) : RowGn (((((w.setCell ⟨b, k * 5, none⟩ (.int .i64 x.k)).setCell ⟨b, k * 5 + 1, none⟩ (.int .i64 x.u)).setCell ⟨b, k * 5 + 2, none⟩ (.int .i64 x.v)).setCell ⟨b, k * 5 + 3, none⟩ (.int .i64 x.n)).setCell ⟨b, k * 5 + 4, none⟩ (.string x.s)) b (xs.set k x) := by
  refine ⟨by simpa [World.setCell] using h.1, fun i hi => ?_⟩
  rw [List.length_set] at hi
  obtain ⟨⟨h0, h1, h2, h3, h4⟩, f1⟩ := h.2 i hi
  refine ⟨?_, fun j hj => by simpa using f1 j hj⟩
  by_cases e : i = k
  · subst e
    have eg : (xs.set i x).getD i gn0 = x := by simp [List.getD_eq_getElem?_getD, hk]
    rw [eg]
    refine ⟨?_, ?_, ?_, ?_, ?_⟩
    · rw [cellGn_other _ _ _ _ _ _ (by omega), cellGn_other _ _ _ _ _ _ (by omega), cellGn_other _ _ _ _ _ _ (by omega), cellGn_other _ _ _ _ _ _ (by omega)]; exact World.cell?_setCell_same _ _ _ h0
    · rw [cellGn_other _ _ _ _ _ _ (by omega), cellGn_other _ _ _ _ _ _ (by omega), cellGn_other _ _ _ _ _ _ (by omega)]; exact World.cell?_setCell_same _ _ _ ((cellGn_other _ _ _ _ _ _ (by omega)).trans h1)
    · rw [cellGn_other _ _ _ _ _ _ (by omega), cellGn_other _ _ _ _ _ _ (by omega)]; exact World.cell?_setCell_same _ _ _ ((cellGn_other _ _ _ _ _ _ (by omega)).trans ((cellGn_other _ _ _ _ _ _ (by omega)).trans h2))
    · rw [cellGn_other _ _ _ _ _ _ (by omega)]; exact World.cell?_setCell_same _ _ _ ((cellGn_other _ _ _ _ _ _ (by omega)).trans ((cellGn_other _ _ _ _ _ _ (by omega)).trans ((cellGn_other _ _ _ _ _ _ (by omega)).trans h3)))
    · exact World.cell?_setCell_same _ _ _ ((cellGn_other _ _ _ _ _ _ (by omega)).trans ((cellGn_other _ _ _ _ _ _ (by omega)).trans ((cellGn_other _ _ _ _ _ _ (by omega)).trans ((cellGn_other _ _ _ _ _ _ (by omega)).trans h4))))
  · have eg : (xs.set k x).getD i gn0 = xs.getD i gn0 := by simp [List.getD_eq_getElem?_getD, Ne.symm e]
    rw [eg]
    refine ⟨?_, ?_, ?_, ?_, ?_⟩
    · rw [cellGn_other _ _ _ _ _ _ (by omega), cellGn_other _ _ _ _ _ _ (by omega), cellGn_other _ _ _ _ _ _ (by omega), cellGn_other _ _ _ _ _ _ (by omega), cellGn_other _ _ _ _ _ _ (by omega)]; exact h0
    · rw [cellGn_other _ _ _ _ _ _ (by omega), cellGn_other _ _ _ _ _ _ (by omega), cellGn_other _ _ _ _ _ _ (by omega), cellGn_other _ _ _ _ _ _ (by omega), cellGn_other _ _ _ _ _ _ (by omega)]; exact h1
    · rw [cellGn_other _ _ _ _ _ _ (by omega), cellGn_other _ _ _ _ _ _ (by omega), cellGn_other _ _ _ _ _ _ (by omega), cellGn_other _ _ _ _ _ _ (by omega), cellGn_other _ _ _ _ _ _ (by omega)]; exact h2
    · rw [cellGn_other _ _ _ _ _ _ (by omega), cellGn_other _ _ _ _ _ _ (by omega), cellGn_other _ _ _ _ _ _ (by omega), cellGn_other _ _ _ _ _ _ (by omega), cellGn_other _ _ _ _ _ _ (by omega)]; exact h3
    · rw [cellGn_other _ _ _ _ _ _ (by omega), cellGn_other _ _ _ _ _ _ (by omega), cellGn_other _ _ _ _ _ _ (by omega), cellGn_other _ _ _ _ _ _ (by omega), cellGn_other _ _ _ _ _ _ (by omega)]; exact h4
theorem RowGn.other {w : World} {b : Nat} {xs : List Gn} (h : RowGn w b xs) (b' j : Nat) (hne : b ≠ b') (y : Value) : RowGn (w.setCell ⟨b', j, none⟩ y) b xs := by
  refine ⟨by simpa [World.setCell] using h.1, fun i hi => ?_⟩
  obtain ⟨⟨h0, h1, h2, h3, h4⟩, f1⟩ := h.2 i hi
  exact ⟨⟨(cellGn_other _ _ _ _ _ _ (.inl hne)).trans h0, (cellGn_other _ _ _ _ _ _ (.inl hne)).trans h1, (cellGn_other _ _ _ _ _ _ (.inl hne)).trans h2, (cellGn_other _ _ _ _ _ _ (.inl hne)).trans h3, (cellGn_other _ _ _ _ _ _ (.inl hne)).trans h4⟩, fun j hj => by simpa using f1 j hj⟩
theorem RowGn.made (w : World) (n : Nat) (t : TypeId) : RowGn (w.alloc (.cells (madeCells #[.int .i64 0, .int .i64 0, .int .i64 0, .int .i64 0, .string ⟨#[]⟩] (n * 5)) t)) w.heap.size (List.replicate n gn0) := by
  refine ⟨by simp, fun i hi => ?_⟩
  rw [List.length_replicate] at hi
  have eg : (List.replicate n gn0).getD i gn0 = gn0 := by simp [List.getD_eq_getElem?_getD, hi]
  rw [eg]
  have e0 : (madeCells #[Value.int IntKind.i64 0, Value.int IntKind.i64 0, Value.int IntKind.i64 0, Value.int IntKind.i64 0, Value.string ⟨#[]⟩] (n * 5))[i * 5]? = some (.int .i64 0) := by
    simp [madeCells, show i * 5 < n * 5 by omega]
  have e1 : (madeCells #[Value.int IntKind.i64 0, Value.int IntKind.i64 0, Value.int IntKind.i64 0, Value.int IntKind.i64 0, Value.string ⟨#[]⟩] (n * 5))[i * 5 + 1]? = some (.int .i64 0) := by
    simp [madeCells, show i * 5 + 1 < n * 5 by omega, show (i * 5 + 1) % 5 = 1 by omega]
  have e2 : (madeCells #[Value.int IntKind.i64 0, Value.int IntKind.i64 0, Value.int IntKind.i64 0, Value.int IntKind.i64 0, Value.string ⟨#[]⟩] (n * 5))[i * 5 + 2]? = some (.int .i64 0) := by
    simp [madeCells, show i * 5 + 2 < n * 5 by omega, show (i * 5 + 2) % 5 = 2 by omega]
  have e3 : (madeCells #[Value.int IntKind.i64 0, Value.int IntKind.i64 0, Value.int IntKind.i64 0, Value.int IntKind.i64 0, Value.string ⟨#[]⟩] (n * 5))[i * 5 + 3]? = some (.int .i64 0) := by
    simp [madeCells, show i * 5 + 3 < n * 5 by omega, show (i * 5 + 3) % 5 = 3 by omega]
  have e4 : (madeCells #[Value.int IntKind.i64 0, Value.int IntKind.i64 0, Value.int IntKind.i64 0, Value.int IntKind.i64 0, Value.string ⟨#[]⟩] (n * 5))[i * 5 + 4]? = some (.string ⟨#[]⟩) := by
    simp [madeCells, show i * 5 + 4 < n * 5 by omega, show (i * 5 + 4) % 5 = 4 by omega]
  exact ⟨⟨by simp [e0, gn0], by simp [e1, gn0], by simp [e2, gn0], by simp [e3, gn0], by simp [e4, gn0]⟩, fun j hj => by simp⟩
theorem infoGn : (Try.prog.info? 149).map (fun i => (i.zero, i.size, i.bytes)) = some (some (.agg #[.int .i64 0, .int .i64 0, .int .i64 0, .int .i64 0, .string ⟨#[]⟩]), 5, 48) := by kernel_rfl
theorem mkGns (w : World) (n : Nat) (hn : n ≤ 1048576) : (Instr.makeSlice 68 (.int .i64 (n : Int)) (.int .i64 (n : Int))).run Try.prog w = .ok (.slice (some ⟨w.heap.size, 0, none⟩) n n) (w.alloc (.cells (madeCells #[.int .i64 0, .int .i64 0, .int .i64 0, .int .i64 0, .string ⟨#[]⟩] (n * 5)) 149)) := by
  obtain ⟨i, h1, h2, h3, h4⟩ := info_parts infoGn
  have h := run_make (P := Try.prog) w 68 149 i _ Try.underlying68 h1 h2 .i64 .i64 n n (by omega) (by omega) (by rw [h4]; omega) (by omega)
  rw [h3] at h
  exact h
def UptoGn (k : Nat) (qs xs : List Gn) : Prop := qs.length = xs.length ∧ ∀ i, i < k → qs.getD i gn0 = xs.getD i gn0
theorem UptoGn.zero {n : Nat} {xs : List Gn} (hp : xs.length = n) : UptoGn 0 (List.replicate n gn0) xs := ⟨by simp [hp], fun i h => by omega⟩
theorem UptoGn.step {k : Nat} {qs xs : List Gn} (h : UptoGn k qs xs) (hk : k < xs.length) : UptoGn (k + 1) (qs.set k (xs.getD k gn0)) xs := by
  refine ⟨by simpa using h.1, fun i hi => ?_⟩
  by_cases e : i = k
  · subst e; simp [List.getD_eq_getElem?_getD, h.1, hk]
  · rw [← h.2 i (by omega)]; simp [List.getD_eq_getElem?_getD, Ne.symm e]
theorem UptoGn.all {qs xs : List Gn} (h : UptoGn xs.length qs xs) : qs = xs := by
  apply List.ext_getElem h.1
  intro i h1 h2
  have := h.2 i h2
  simpa [List.getD_eq_getElem?_getD, h1, h2] using this
section
variable {H : Type} {enc : TypeId × Value → H} {w : World} {base : Nat}
set_option maxRecDepth 100000 in
theorem open_lGns {d : DataW H × List MemPlace} {n : Nat} {c : Value} (h1 : DataW.trod enc Try.prog w base (fun _ => true) true n 62 [c] = some d) :
    ∃ (a : Option Addr) (len cap : Nat) (xs : List Gn), c = .slice a len cap ∧ InGn w a len cap xs := by
  rcases Deep.open_slice Try.underlying62 h1 with ⟨hc, -⟩ | ⟨a, len, cap, m, k, D, Pl, hc, hb, hl, hm, hmm, -, hx⟩
  · simp at hc
    subst hc
    exact ⟨none, 0, 0, [], rfl, rfl, Nat.le_refl _, Nat.zero_le _, by simp, .inl rfl⟩
  simp at hc
  subst hc
  simp at hmm
  subst hmm
  have ce : Try.prog.cellsOf 145 = 5 := by kernel_rfl
  rw [ce] at hx
  have hz : ∀ i, ∃ p : Gn, i < m → p.fit ∧ w.cells? base (a.add (i * 5)) 5 = some [.int .i64 p.k, .int .i64 p.u, .int .i64 p.v, .int .i64 p.n, .string p.s] := by
    intro i
    by_cases hi : i < m
    · obtain ⟨cs', hcs, ht⟩ := hx i hi
      obtain ⟨y0, y1, y2, y3, y4, n', -, hlen, t0, t1, t2, t3, t4⟩ := trodS5 Try.underlying145 ht
      rw [ce] at hlen
      match cs', hlen with
      | [v0, v1, v2, v3, v4], _ =>
        have k1 : Try.prog.cellsOf 3 = 1 := by kernel_rfl
        have k2 : Try.prog.cellsOf 9 = 1 := by kernel_rfl
        have t0' : DataW.trod enc Try.prog w base (fun _ => true) true n' 3 [v0] = some y0 := t0
        have t1' : DataW.trod enc Try.prog w base (fun _ => true) true n' 3 [v1] = some y1 := t1
        have t2' : DataW.trod enc Try.prog w base (fun _ => true) true n' 3 [v2] = some y2 := t2
        have t3' : DataW.trod enc Try.prog w base (fun _ => true) true n' 3 [v3] = some y3 := t3
        have t4' : DataW.trod enc Try.prog w base (fun _ => true) true n' 9 [v4] = some y4 := t4
        obtain ⟨u0, e0, -, w0⟩ := DataW.trod_int Try.underlying3 t0'
        obtain ⟨u1, e1, -, w1⟩ := DataW.trod_int Try.underlying3 t1'
        obtain ⟨u2, e2, -, w2⟩ := DataW.trod_int Try.underlying3 t2'
        obtain ⟨u3, e3, -, w3⟩ := DataW.trod_int Try.underlying3 t3'
        obtain ⟨u4, e4, -, w4⟩ := DataW.trod_string Try.underlying9 t4'
        simp at e0 e1 e2 e3 e4
        subst e0 e1 e2 e3 e4
        exact ⟨⟨u0, u1, u2, u3, u4⟩, fun _ => ⟨⟨bounds_i64 w0, bounds_i64 w1, bounds_i64 w2, bounds_i64 w3, w4⟩, hcs⟩⟩
    · exact ⟨gn0, fun h => absurd h hi⟩
  obtain ⟨f, hff⟩ := Classical.axiomOfChoice hz
  refine ⟨some a, len, m, (List.range len).map f, rfl, by simp, hl, hm, ?_, ?_⟩
  · intro p hp
    obtain ⟨i, hi, rfl⟩ := List.mem_map.1 hp
    exact (hff i (by have := List.mem_range.1 hi; omega)).1
  by_cases h0 : len = 0
  · exact .inl h0
  obtain ⟨b, off, spot⟩ := a
  have e0 : w.cell? ((⟨b, off, spot⟩ : Addr).add (0 * 5) |>.add 0) = _ := (World.cells?_some (hff 0 (by omega)).2).2.2 0 (by omega)
  have hspot : spot = none := by simpa [Addr.add] using World.cell?_spot e0
  subst hspot
  refine .inr ⟨b, off, rfl, by simpa [Addr.add] using World.block_lt_of_cell? w _ e0, fun i hi => ?_⟩
  have ad : ∀ o j, (⟨b, o, none⟩ : Addr).add j = ⟨b, o + j, none⟩ := by
    intro o j
    by_cases h : j = 0
    · subst h; simp [Addr.add]
    · simp [Addr.add, h]
  have q := (World.cells?_some (hff i (by omega)).2).2.2
  have q0 := q 0 (by omega)
  have q1 := q 1 (by omega)
  have q2 := q 2 (by omega)
  have q3 := q 3 (by omega)
  have q4 := q 4 (by omega)
  rw [ad, ad] at q0 q1 q2 q3 q4
  have eg : ((List.range len).map f).getD i gn0 = f i := by
    rw [List.getD_eq_getElem?_getD, List.getElem?_map, List.getElem?_range hi]; rfl
  rw [eg]
  exact ⟨q0, q1, q2, q3, q4⟩
end
set_option maxHeartbeats 1000000 in
theorem lToGn (k : Int) (u : Int) (v : Int) (n : Int) (s : ByteArray) (w : World) :
    Calls Try.prog 110 #[.agg #[.int .i64 k, .int .i64 u, .int .i64 v, .int .i64 n, .string s]] w fun e w' => e = .returned (.agg #[.int .i64 k, .int .i64 u, .int .i64 v, .int .i64 n, .string s]) ∧ Below w.heap.size w w' := by
  go_enter Try.func110, Try.ntmps110
  go_wp2
  refine bodyPost_ret (v := .agg #[.int .i64 k, .int .i64 u, .int .i64 v, .int .i64 n, .string s]) ?_ rfl ⟨rfl, (by repeat (first | with_reducible exact Below.refl _ _ | with_reducible refine Below.drew ?_ | ((with_reducible refine Below.setCell ?_ ?_ _); rotate_left; (focus (first | (simp; done) | omega | (simp; omega)))) | with_reducible refine old_alloc ?_ _ | with_reducible refine old_trans ?_ (by with_reducible assumption)))⟩
  simp [results, Try.results110, go_sem]
set_option maxHeartbeats 4000000 in
theorem lToGns (a : Option Addr) (len cap : Nat) (xs : List Gn) (w : World) (hR : InGn w a len cap xs) (hl : len ≤ 1048576) :
    Calls Try.prog 76 #[.slice a len cap] w fun e w' => (e = .returned (.slice (some ⟨w.heap.size, 0, none⟩) len len) ∧ RowGn w' w.heap.size xs) ∧ Below w.heap.size w w' := by
  have hmk := mkGns w len hl
  have hr0 := RowGn.made w len 149
  have hb0 : Below w.heap.size w (w.alloc (.cells (madeCells #[.int .i64 0, .int .i64 0, .int .i64 0, .int .i64 0, .string ⟨#[]⟩] (len * 5)) 149)) := (Below.refl _ w).alloc (Nat.le_refl _) _
  generalize w.alloc (.cells (madeCells #[.int .i64 0, .int .i64 0, .int .i64 0, .int .i64 0, .string ⟨#[]⟩] (len * 5)) 149) = w0 at *
  have hp := hR.1
  go_enter Try.func76, Try.ntmps76
  go_wp2
  go_loopw [4] (fun a wr => ∃ (i : Nat) (qs : List Gn), i ≤ len ∧ a = .int .i64 i ∧ UptoGn i qs xs ∧ RowGn wr w.heap.size qs ∧ Below w.heap.size w wr) (fun b _ => len - (intOf b).toNat)
  case atStart => exact ⟨0, _, by omega, rfl, UptoGn.zero hp, hr0, hb0⟩
  case round =>
    obtain ⟨i, qs, hk, rfl, hu, hr, hb⟩ := hrel
    by_cases hlt : i < len
    · obtain ⟨bl, off, k, u, v, n, s, rfl, hbl, hx, -, c0, c1, c2, c3, c4⟩ := (hR.old hb).at hlt
      go_wp2_with fail
      refine (lToGn k u v n s _).mono ?_
      rintro e w1 ⟨rfl, hb1⟩
      have hr1 := hr.old hb1
      obtain ⟨k', u', v', n', s', d0, d1, d2, d3, d4, f0, f1, f2, f3, f4⟩ := hr1.at (i := i) (by rw [hu.1]; omega)
      go_wp2
      go_roundw
      case rel =>
        refine ⟨i + 1, _, by omega, by go_num, hu.step (by omega), ?_, ?_⟩
        · rw [hx]; exact hr1.set i (by rw [hu.1]; omega) ⟨k, u, v, n, s⟩
        · exact (((((hb.trans (hb1.mono hb.size)).setCell (p := ⟨w.heap.size, i * 5, none⟩) (Nat.le_refl _) _).setCell (p := ⟨w.heap.size, i * 5 + 1, none⟩) (Nat.le_refl _) _).setCell (p := ⟨w.heap.size, i * 5 + 2, none⟩) (Nat.le_refl _) _).setCell (p := ⟨w.heap.size, i * 5 + 3, none⟩) (Nat.le_refl _) _).setCell (p := ⟨w.heap.size, i * 5 + 4, none⟩) (Nat.le_refl _) _
      case measure => simp [intOf]; omega
    · obtain rfl : i = len := by omega
      go_wp2
      go_ret
      subst hp
      exact ⟨⟨rfl, by rw [← hu.all]; exact hr⟩, hb⟩
set_option maxHeartbeats 1000000 in
theorem lEqGn (k : Int) (u : Int) (v : Int) (n : Int) (s : ByteArray) (w : World) :
    Calls Try.prog 126 #[.agg #[.int .i64 k, .int .i64 u, .int .i64 v, .int .i64 n, .string s], .agg #[.int .i64 k, .int .i64 u, .int .i64 v, .int .i64 n, .string s]] w fun e w' => e = .returned (.bool true) ∧ Below w.heap.size w w' := by
  go_enter Try.func126, Try.ntmps126
  go_wp2
  go_ret
  exact ⟨rfl, (by repeat (first | exact Below.refl _ _ | refine Below.drew ?_ | refine old_alloc ?_ _ | refine old_trans ?_ (by assumption)))⟩
theorem two_oldGn {w' w'' : World} {bl bl' o o' : Nat} (k : Int) (u : Int) (v : Int) (n : Int) (s : ByteArray) (hS : w'.cell? ⟨bl, o, none⟩ = some (.int .i64 k) ∧ w'.cell? ⟨bl, o + 1, none⟩ = some (.int .i64 u) ∧ w'.cell? ⟨bl, o + 2, none⟩ = some (.int .i64 v) ∧ w'.cell? ⟨bl, o + 3, none⟩ = some (.int .i64 n) ∧ w'.cell? ⟨bl, o + 4, none⟩ = some (.string s) ∧ w'.cell? ⟨bl', o', none⟩ = some (.int .i64 k) ∧ w'.cell? ⟨bl', o' + 1, none⟩ = some (.int .i64 u) ∧ w'.cell? ⟨bl', o' + 2, none⟩ = some (.int .i64 v) ∧ w'.cell? ⟨bl', o' + 3, none⟩ = some (.int .i64 n) ∧ w'.cell? ⟨bl', o' + 4, none⟩ = some (.string s)) (q : Below w'.heap.size w' w'') : w''.cell? ⟨bl, o, none⟩ = some (.int .i64 k) ∧ w''.cell? ⟨bl, o + 1, none⟩ = some (.int .i64 u) ∧ w''.cell? ⟨bl, o + 2, none⟩ = some (.int .i64 v) ∧ w''.cell? ⟨bl, o + 3, none⟩ = some (.int .i64 n) ∧ w''.cell? ⟨bl, o + 4, none⟩ = some (.string s) ∧ w''.cell? ⟨bl', o', none⟩ = some (.int .i64 k) ∧ w''.cell? ⟨bl', o' + 1, none⟩ = some (.int .i64 u) ∧ w''.cell? ⟨bl', o' + 2, none⟩ = some (.int .i64 v) ∧ w''.cell? ⟨bl', o' + 3, none⟩ = some (.int .i64 n) ∧ w''.cell? ⟨bl', o' + 4, none⟩ = some (.string s) := by
  obtain ⟨a0, a1, a2, a3, a4, a5, a6, a7, a8, a9⟩ := hS
  exact ⟨(q.cell (World.block_lt_of_cell? _ _ a0)).trans a0, (q.cell (World.block_lt_of_cell? _ _ a1)).trans a1, (q.cell (World.block_lt_of_cell? _ _ a2)).trans a2, (q.cell (World.block_lt_of_cell? _ _ a3)).trans a3, (q.cell (World.block_lt_of_cell? _ _ a4)).trans a4, (q.cell (World.block_lt_of_cell? _ _ a5)).trans a5, (q.cell (World.block_lt_of_cell? _ _ a6)).trans a6, (q.cell (World.block_lt_of_cell? _ _ a7)).trans a7, (q.cell (World.block_lt_of_cell? _ _ a8)).trans a8, (q.cell (World.block_lt_of_cell? _ _ a9)).trans a9⟩
set_option maxHeartbeats 4000000 in
theorem lEqGns (a a' : Option Addr) (len cap cap' : Nat) (xs : List Gn) (w : World) (hR : InGn w a len cap xs) (hR' : InGn w a' len cap' xs) :
    Calls Try.prog 84 #[.slice a len cap, .slice a' len cap'] w fun e w' => e = .returned (.bool true) ∧ Below w.heap.size w w' := by
  have hlen : len ≤ maxLen := Nat.le_trans hR.2.1 hR.2.2.1
  unfold maxLen at hlen
  go_enter Try.func84, Try.ntmps84
  go_wp2
  go_loopw [5] (fun a wr => ∃ i : Nat, i ≤ len ∧ a = .int .i64 i ∧ Below w.heap.size w wr) (fun b _ => len - (intOf b).toNat)
  case atStart => exact ⟨0, by omega, rfl, (by repeat (first | exact Below.refl _ _ | refine Below.drew ?_ | refine old_alloc ?_ _ | refine old_trans ?_ (by assumption)))⟩
  case round =>
    obtain ⟨i, hk, rfl, hb⟩ := hrel
    by_cases hlt : i < len
    · obtain ⟨bl, off, k, u, v, n, s, rfl, hbl, hx, -, c0, c1, c2, c3, c4⟩ := (hR.old hb).at hlt
      obtain ⟨bl', off', k', u', v', n', s', rfl, hbl', hx', -, c0', c1', c2', c3', c4'⟩ := (hR'.old hb).at hlt
      obtain ⟨rfl, rfl, rfl, rfl, rfl⟩ := Gn.mk.inj (hx.symm.trans hx')
      clear hx hx'
      have E := hd (lEqGn k u v n s)
      go_wp2_with fail
      have U := hd (fun w' (hS : w'.cell? ⟨bl, off + i * 5, none⟩ = some (.int .i64 k) ∧ w'.cell? ⟨bl, off + i * 5 + 1, none⟩ = some (.int .i64 u) ∧ w'.cell? ⟨bl, off + i * 5 + 2, none⟩ = some (.int .i64 v) ∧ w'.cell? ⟨bl, off + i * 5 + 3, none⟩ = some (.int .i64 n) ∧ w'.cell? ⟨bl, off + i * 5 + 4, none⟩ = some (.string s) ∧ w'.cell? ⟨bl', off' + i * 5, none⟩ = some (.int .i64 k) ∧ w'.cell? ⟨bl', off' + i * 5 + 1, none⟩ = some (.int .i64 u) ∧ w'.cell? ⟨bl', off' + i * 5 + 2, none⟩ = some (.int .i64 v) ∧ w'.cell? ⟨bl', off' + i * 5 + 3, none⟩ = some (.int .i64 n) ∧ w'.cell? ⟨bl', off' + i * 5 + 4, none⟩ = some (.string s)) => (E.out w').mono (fun e w'' (q : _ ∧ _) => (⟨q, two_oldGn k u v n s hS q.2⟩ : (_ ∧ _) ∧ (w''.cell? ⟨bl, off + i * 5, none⟩ = some (.int .i64 k) ∧ w''.cell? ⟨bl, off + i * 5 + 1, none⟩ = some (.int .i64 u) ∧ w''.cell? ⟨bl, off + i * 5 + 2, none⟩ = some (.int .i64 v) ∧ w''.cell? ⟨bl, off + i * 5 + 3, none⟩ = some (.int .i64 n) ∧ w''.cell? ⟨bl, off + i * 5 + 4, none⟩ = some (.string s) ∧ w''.cell? ⟨bl', off' + i * 5, none⟩ = some (.int .i64 k) ∧ w''.cell? ⟨bl', off' + i * 5 + 1, none⟩ = some (.int .i64 u) ∧ w''.cell? ⟨bl', off' + i * 5 + 2, none⟩ = some (.int .i64 v) ∧ w''.cell? ⟨bl', off' + i * 5 + 3, none⟩ = some (.int .i64 n) ∧ w''.cell? ⟨bl', off' + i * 5 + 4, none⟩ = some (.string s)))))
      go_region_held3 (fun w' => w'.cell? ⟨bl, off + i * 5, none⟩ = some (.int .i64 k) ∧ w'.cell? ⟨bl, off + i * 5 + 1, none⟩ = some (.int .i64 u) ∧ w'.cell? ⟨bl, off + i * 5 + 2, none⟩ = some (.int .i64 v) ∧ w'.cell? ⟨bl, off + i * 5 + 3, none⟩ = some (.int .i64 n) ∧ w'.cell? ⟨bl, off + i * 5 + 4, none⟩ = some (.string s) ∧ w'.cell? ⟨bl', off' + i * 5, none⟩ = some (.int .i64 k) ∧ w'.cell? ⟨bl', off' + i * 5 + 1, none⟩ = some (.int .i64 u) ∧ w'.cell? ⟨bl', off' + i * 5 + 2, none⟩ = some (.int .i64 v) ∧ w'.cell? ⟨bl', off' + i * 5 + 3, none⟩ = some (.int .i64 n) ∧ w'.cell? ⟨bl', off' + i * 5 + 4, none⟩ = some (.string s)) (go_keep) (first | (go_at_call 126; refine (U.out _ (by first | assumption | exact ⟨c0, c1, c2, c3, c4, c0', c1', c2', c3', c4'⟩)).mono ?_; rintro e w1 ⟨⟨rfl, hb1⟩, hSS⟩; obtain ⟨g0, g1, g2, g3, g4, g5, g6, g7, g8, g9⟩ := hSS))
      all_goals
        have hB : Below w.heap.size w w1 := hb.drew.trans (hb1.mono hb.size)
        go_wp2
        go_roundw
        case rel => exact ⟨i + 1, by omega, by go_num, hB⟩
        case measure => simp [intOf]; omega
    · obtain rfl : i = len := by omega
      go_wp2
      go_ret
      exact ⟨rfl, hb⟩
end Go.Proofs.Ytmpckbgelkfgpaa

/- Lists of relations of a graph in memory: where they lie, how a law opens, copies and compares them. No condition. -/
namespace Go.Proofs.Ytmpckbgelkfgpaa
open Go.RowKit
set_option linter.unusedVariables false
set_option maxRecDepth 100000

structure Gr where
  k : Int
  l : Int
  r : Int
def gr0 : Gr := ⟨0, 0, 0⟩
def Gr.fit (x : Gr) : Prop := (-9223372036854775808 ≤ x.k ∧ x.k ≤ 9223372036854775807) ∧ (-9223372036854775808 ≤ x.l ∧ x.l ≤ 9223372036854775807) ∧ (-9223372036854775808 ≤ x.r ∧ x.r ≤ 9223372036854775807)
def GrC (w : World) (b o : Nat) (x : Gr) : Prop := w.cell? ⟨b, o, none⟩ = some (.int .i64 x.k) ∧ w.cell? ⟨b, o + 1, none⟩ = some (.int .i64 x.l) ∧ w.cell? ⟨b, o + 2, none⟩ = some (.int .i64 x.r)
def InGr (w : World) (a : Option Addr) (len cap : Nat) (xs : List Gr) : Prop :=
  xs.length = len ∧ len ≤ cap ∧ cap ≤ maxLen ∧ (∀ x ∈ xs, x.fit) ∧
  (len = 0 ∨ ∃ b off : Nat, a = some ⟨b, off, none⟩ ∧ b < w.heap.size ∧ ∀ i, i < len → GrC w b (off + i * 3) (xs.getD i gr0))
theorem GrC.old {w w' : World} {b o : Nat} {x : Gr} (h : GrC w b o x) (k : Below w.heap.size w w') (hb : b < w.heap.size) : GrC w' b o x := by
  obtain ⟨h0, h1, h2⟩ := h
  exact ⟨(k.cell (p := ⟨b, o, none⟩) hb).trans h0, (k.cell (p := ⟨b, o + 1, none⟩) hb).trans h1, (k.cell (p := ⟨b, o + 2, none⟩) hb).trans h2⟩
theorem InGr.old {w w' : World} {a : Option Addr} {len cap : Nat} {xs : List Gr} (h : InGr w a len cap xs) (b : Below w.heap.size w w') : InGr w' a len cap xs := by
  obtain ⟨h1, h2, h3, h4, h5⟩ := h
  refine ⟨h1, h2, h3, h4, ?_⟩
  rcases h5 with h5 | ⟨bb, off, q1, q2, q3⟩
  · exact .inl h5
  · exact .inr ⟨bb, off, q1, Nat.lt_of_lt_of_le q2 b.size, fun i hi => (q3 i hi).old b q2⟩
theorem InGr.al {w : World} {a : Option Addr} {len cap : Nat} {xs : List Gr} (h : InGr w a len cap xs) (o : Obj) : InGr (w.alloc o) a len cap xs := h.old ((Below.refl _ _).alloc (Nat.le_refl _) o)
theorem InGr.dr {w : World} {a : Option Addr} {len cap : Nat} {xs : List Gr} (h : InGr w a len cap xs) : InGr w.drew a len cap xs := h
theorem getD_memGr {xs : List Gr} {k : Nat} (hk : k < xs.length) : xs.getD k gr0 ∈ xs := by
  have e2 : xs.getD k gr0 = xs[k]'hk := by rw [List.getD_eq_getElem?_getD, List.getElem?_eq_getElem hk]; rfl
  rw [e2]
  exact List.getElem_mem _
theorem InGr.at {w : World} {a : Option Addr} {len cap : Nat} {xs : List Gr} (h : InGr w a len cap xs) {i : Nat} (hi : i < len) : ∃ (bl off : Nat) (k : Int) (l : Int) (r : Int), a = some ⟨bl, off, none⟩ ∧ bl < w.heap.size ∧ xs.getD i gr0 = ⟨k, l, r⟩ ∧ Gr.fit ⟨k, l, r⟩ ∧ w.cell? ⟨bl, off + i * 3, none⟩ = some (.int .i64 k) ∧ w.cell? ⟨bl, off + i * 3 + 1, none⟩ = some (.int .i64 l) ∧ w.cell? ⟨bl, off + i * 3 + 2, none⟩ = some (.int .i64 r) := by
  rcases h.2.2.2.2 with h0 | ⟨b, off, e, hb, hc⟩
  · omega
  · have hl := h.1
    have q := hc i hi
    exact ⟨b, off, _, _, _, e, hb, rfl, h.2.2.2.1 _ (getD_memGr (by omega)), q⟩
/-- such ones in a block of their own -/
def RowGr (w : World) (b : Nat) (xs : List Gr) : Prop :=
  b < w.heap.size ∧ ∀ i, i < xs.length → GrC w b (i * 3) (xs.getD i gr0) ∧ ∀ j, j < 3 → w.frozen? ⟨b, i * 3 + j, none⟩ = false
theorem RowGr.old {w w' : World} {b : Nat} {xs : List Gr} (h : RowGr w b xs) (k : Below w.heap.size w w') : RowGr w' b xs :=
  ⟨Nat.lt_of_lt_of_le h.1 k.size, fun i hi => ⟨(h.2 i hi).1.old k h.1, fun j hj => (k.frozen (p := ⟨b, i * 3 + j, none⟩) h.1).trans ((h.2 i hi).2 j hj)⟩⟩
theorem RowGr.inGr {w : World} {b cap : Nat} {xs : List Gr} (h : RowGr w b xs) (f : ∀ x ∈ xs, x.fit) (h1 : xs.length ≤ cap) (h2 : cap ≤ maxLen) : InGr w (some ⟨b, 0, none⟩) xs.length cap xs :=
  ⟨rfl, h1, h2, f, .inr ⟨b, 0, rfl, h.1, fun i hi => by rw [Nat.zero_add]; exact (h.2 i hi).1⟩⟩
theorem RowGr.at {w : World} {b : Nat} {xs : List Gr} (h : RowGr w b xs) {i : Nat} (hi : i < xs.length) : ∃ (k : Int) (l : Int) (r : Int), w.cell? ⟨b, i * 3, none⟩ = some (.int .i64 k) ∧ w.cell? ⟨b, i * 3 + 1, none⟩ = some (.int .i64 l) ∧ w.cell? ⟨b, i * 3 + 2, none⟩ = some (.int .i64 r) ∧ w.frozen? ⟨b, i * 3, none⟩ = false ∧ w.frozen? ⟨b, i * 3 + 1, none⟩ = false ∧ w.frozen? ⟨b, i * 3 + 2, none⟩ = false := by
  obtain ⟨h0, h1, h2⟩ := (h.2 i hi).1
  have f := (h.2 i hi).2
  exact ⟨_, _, _, h0, h1, h2, f 0 (by decide), f 1 (by decide), f 2 (by decide)⟩
theorem cellGr_other (W : World) (b b' i j : Nat) (v : Value) (hn : b ≠ b' ∨ i ≠ j) : (W.setCell ⟨b', j, none⟩ v).cell? ⟨b, i, none⟩ = W.cell? ⟨b, i, none⟩ := World.cell?_setCell_other _ _ _ _ (by intro h; injection h with h1 h2; omega)
theorem RowGr.set {w : World} {b : Nat} {xs : List Gr} (h : RowGr w b xs) (k : Nat) (hk : k < xs.length) (x : Gr) : RowGr (((w.setCell ⟨b, k * 3, none⟩ (.int .i64 x.k)).setCell ⟨b, k * 3 + 1, none⟩ (.int .i64 x.l)).setCell ⟨b, k * 3 + 2, none⟩ (.int .i64 x.r)) b (xs.set k x) := by
  refine ⟨by simpa [World.setCell] using h.1, fun i hi => ?_⟩
  rw [List.length_set] at hi
  obtain ⟨⟨h0, h1, h2⟩, f1⟩ := h.2 i hi
  refine ⟨?_, fun j hj => by simpa using f1 j hj⟩
  by_cases e : i = k
  · subst e
    have eg : (xs.set i x).getD i gr0 = x := by simp [List.getD_eq_getElem?_getD, hk]
    rw [eg]
    refine ⟨?_, ?_, ?_⟩
    · rw [cellGr_other _ _ _ _ _ _ (by omega), cellGr_other _ _ _ _ _ _ (by omega)]; exact World.cell?_setCell_same _ _ _ h0
    · rw [cellGr_other _ _ _ _ _ _ (by omega)]; exact World.cell?_setCell_same _ _ _ ((cellGr_other _ _ _ _ _ _ (by omega)).trans h1)
    · exact World.cell?_setCell_same _ _ _ ((cellGr_other _ _ _ _ _ _ (by omega)).trans ((cellGr_other _ _ _ _ _ _ (by omega)).trans h2))
  · have eg : (xs.set k x).getD i gr0 = xs.getD i gr0 := by simp [List.getD_eq_getElem?_getD, Ne.symm e]
    rw [eg]
    refine ⟨?_, ?_, ?_⟩
    · rw [cellGr_other _ _ _ _ _ _ (by omega), cellGr_other _ _ _ _ _ _ (by omega), cellGr_other _ _ _ _ _ _ (by omega)]; exact h0
    · rw [cellGr_other _ _ _ _ _ _ (by omega), cellGr_other _ _ _ _ _ _ (by omega), cellGr_other _ _ _ _ _ _ (by omega)]; exact h1
    · rw [cellGr_other _ _ _ _ _ _ (by omega), cellGr_other _ _ _ _ _ _ (by omega), cellGr_other _ _ _ _ _ _ (by omega)]; exact h2
theorem RowGr.other {w : World} {b : Nat} {xs : List Gr} (h : RowGr w b xs) (b' j : Nat) (hne : b ≠ b') (y : Value) : RowGr (w.setCell ⟨b', j, none⟩ y) b xs := by
  refine ⟨by simpa [World.setCell] using h.1, fun i hi => ?_⟩
  obtain ⟨⟨h0, h1, h2⟩, f1⟩ := h.2 i hi
  exact ⟨⟨(cellGr_other _ _ _ _ _ _ (.inl hne)).trans h0, (cellGr_other _ _ _ _ _ _ (.inl hne)).trans h1, (cellGr_other _ _ _ _ _ _ (.inl hne)).trans h2⟩, fun j hj => by simpa using f1 j hj⟩
theorem RowGr.made (w : World) (n : Nat) (t : TypeId) : RowGr (w.alloc (.cells (madeCells #[.int .i64 0, .int .i64 0, .int .i64 0] (n * 3)) t)) w.heap.size (List.replicate n gr0) := by
  refine ⟨by simp, fun i hi => ?_⟩
  rw [List.length_replicate] at hi
  have eg : (List.replicate n gr0).getD i gr0 = gr0 := by simp [List.getD_eq_getElem?_getD, hi]
  rw [eg]
  have e0 : (madeCells #[Value.int IntKind.i64 0, Value.int IntKind.i64 0, Value.int IntKind.i64 0] (n * 3))[i * 3]? = some (.int .i64 0) := by
    simp [madeCells, show i * 3 < n * 3 by omega]
  have e1 : (madeCells #[Value.int IntKind.i64 0, Value.int IntKind.i64 0, Value.int IntKind.i64 0] (n * 3))[i * 3 + 1]? = some (.int .i64 0) := by
    simp [madeCells, show i * 3 + 1 < n * 3 by omega, show (i * 3 + 1) % 3 = 1 by omega]
  have e2 : (madeCells #[Value.int IntKind.i64 0, Value.int IntKind.i64 0, Value.int IntKind.i64 0] (n * 3))[i * 3 + 2]? = some (.int .i64 0) := by
    simp [madeCells, show i * 3 + 2 < n * 3 by omega, show (i * 3 + 2) % 3 = 2 by omega]
  exact ⟨⟨by simp [e0, gr0], by simp [e1, gr0], by simp [e2, gr0]⟩, fun j hj => by simp⟩
theorem infoGr : (Try.prog.info? 148).map (fun i => (i.zero, i.size, i.bytes)) = some (some (.agg #[.int .i64 0, .int .i64 0, .int .i64 0]), 3, 24) := by kernel_rfl
theorem mkGrs (w : World) (n : Nat) (hn : n ≤ 1048576) : (Instr.makeSlice 69 (.int .i64 (n : Int)) (.int .i64 (n : Int))).run Try.prog w = .ok (.slice (some ⟨w.heap.size, 0, none⟩) n n) (w.alloc (.cells (madeCells #[.int .i64 0, .int .i64 0, .int .i64 0] (n * 3)) 148)) := by
  obtain ⟨i, h1, h2, h3, h4⟩ := info_parts infoGr
  have h := run_make (P := Try.prog) w 69 148 i _ Try.underlying69 h1 h2 .i64 .i64 n n (by omega) (by omega) (by rw [h4]; omega) (by omega)
  rw [h3] at h
  exact h
def UptoGr (k : Nat) (qs xs : List Gr) : Prop := qs.length = xs.length ∧ ∀ i, i < k → qs.getD i gr0 = xs.getD i gr0
theorem UptoGr.zero {n : Nat} {xs : List Gr} (hp : xs.length = n) : UptoGr 0 (List.replicate n gr0) xs := ⟨by simp [hp], fun i h => by omega⟩
theorem UptoGr.step {k : Nat} {qs xs : List Gr} (h : UptoGr k qs xs) (hk : k < xs.length) : UptoGr (k + 1) (qs.set k (xs.getD k gr0)) xs := by
  refine ⟨by simpa using h.1, fun i hi => ?_⟩
  by_cases e : i = k
  · subst e; simp [List.getD_eq_getElem?_getD, h.1, hk]
  · rw [← h.2 i (by omega)]; simp [List.getD_eq_getElem?_getD, Ne.symm e]
theorem UptoGr.all {qs xs : List Gr} (h : UptoGr xs.length qs xs) : qs = xs := by
  apply List.ext_getElem h.1
  intro i h1 h2
  have := h.2 i h2
  simpa [List.getD_eq_getElem?_getD, h1, h2] using this
section
variable {H : Type} {enc : TypeId × Value → H} {w : World} {base : Nat}
set_option maxRecDepth 100000 in
theorem open_lGrs {d : DataW H × List MemPlace} {n : Nat} {c : Value} (h1 : DataW.trod enc Try.prog w base (fun _ => true) true n 63 [c] = some d) :
    ∃ (a : Option Addr) (len cap : Nat) (xs : List Gr), c = .slice a len cap ∧ InGr w a len cap xs := by
  rcases Deep.open_slice Try.underlying63 h1 with ⟨hc, -⟩ | ⟨a, len, cap, m, k, D, Pl, hc, hb, hl, hm, hmm, -, hx⟩
  · simp at hc
    subst hc
    exact ⟨none, 0, 0, [], rfl, rfl, Nat.le_refl _, Nat.zero_le _, by simp, .inl rfl⟩
  simp at hc
  subst hc
  simp at hmm
  subst hmm
  have ce : Try.prog.cellsOf 152 = 3 := by kernel_rfl
  rw [ce] at hx
  have hz : ∀ i, ∃ p : Gr, i < m → p.fit ∧ w.cells? base (a.add (i * 3)) 3 = some [.int .i64 p.k, .int .i64 p.l, .int .i64 p.r] := by
    intro i
    by_cases hi : i < m
    · obtain ⟨cs', hcs, ht⟩ := hx i hi
      obtain ⟨y0, y1, y2, n', -, hlen, t0, t1, t2⟩ := Deep.trod_struct3 Try.underlying152 ht
      rw [ce] at hlen
      match cs', hlen with
      | [v0, v1, v2], _ =>
        have k1 : Try.prog.cellsOf 3 = 1 := by kernel_rfl
        have k2 : Try.prog.cellsOf 9 = 1 := by kernel_rfl
        have t0' : DataW.trod enc Try.prog w base (fun _ => true) true n' 3 [v0] = some y0 := t0
        have t1' : DataW.trod enc Try.prog w base (fun _ => true) true n' 3 [v1] = some y1 := t1
        have t2' : DataW.trod enc Try.prog w base (fun _ => true) true n' 3 [v2] = some y2 := t2
        obtain ⟨u0, e0, -, w0⟩ := DataW.trod_int Try.underlying3 t0'
        obtain ⟨u1, e1, -, w1⟩ := DataW.trod_int Try.underlying3 t1'
        obtain ⟨u2, e2, -, w2⟩ := DataW.trod_int Try.underlying3 t2'
        simp at e0 e1 e2
        subst e0 e1 e2
        exact ⟨⟨u0, u1, u2⟩, fun _ => ⟨⟨bounds_i64 w0, bounds_i64 w1, bounds_i64 w2⟩, hcs⟩⟩
    · exact ⟨gr0, fun h => absurd h hi⟩
  obtain ⟨f, hff⟩ := Classical.axiomOfChoice hz
  refine ⟨some a, len, m, (List.range len).map f, rfl, by simp, hl, hm, ?_, ?_⟩
  · intro p hp
    obtain ⟨i, hi, rfl⟩ := List.mem_map.1 hp
    exact (hff i (by have := List.mem_range.1 hi; omega)).1
  by_cases h0 : len = 0
  · exact .inl h0
  obtain ⟨b, off, spot⟩ := a
  have e0 : w.cell? ((⟨b, off, spot⟩ : Addr).add (0 * 3) |>.add 0) = _ := (World.cells?_some (hff 0 (by omega)).2).2.2 0 (by omega)
  have hspot : spot = none := by simpa [Addr.add] using World.cell?_spot e0
  subst hspot
  refine .inr ⟨b, off, rfl, by simpa [Addr.add] using World.block_lt_of_cell? w _ e0, fun i hi => ?_⟩
  have ad : ∀ o j, (⟨b, o, none⟩ : Addr).add j = ⟨b, o + j, none⟩ := by
    intro o j
    by_cases h : j = 0
    · subst h; simp [Addr.add]
    · simp [Addr.add, h]
  have q := (World.cells?_some (hff i (by omega)).2).2.2
  have q0 := q 0 (by omega)
  have q1 := q 1 (by omega)
  have q2 := q 2 (by omega)
  rw [ad, ad] at q0 q1 q2
  have eg : ((List.range len).map f).getD i gr0 = f i := by
    rw [List.getD_eq_getElem?_getD, List.getElem?_map, List.getElem?_range hi]; rfl
  rw [eg]
  exact ⟨q0, q1, q2⟩
end
set_option maxHeartbeats 1000000 in
theorem lToGr (k : Int) (l : Int) (r : Int) (w : World) :
    Calls Try.prog 111 #[.agg #[.int .i64 k, .int .i64 l, .int .i64 r]] w fun e w' => e = .returned (.agg #[.int .i64 k, .int .i64 l, .int .i64 r]) ∧ Below w.heap.size w w' := by
  go_enter Try.func111, Try.ntmps111
  go_wp2
  refine bodyPost_ret (v := .agg #[.int .i64 k, .int .i64 l, .int .i64 r]) ?_ rfl ⟨rfl, (by repeat (first | with_reducible exact Below.refl _ _ | with_reducible refine Below.drew ?_ | ((with_reducible refine Below.setCell ?_ ?_ _); rotate_left; (focus (first | (simp; done) | omega | (simp; omega)))) | with_reducible refine old_alloc ?_ _ | with_reducible refine old_trans ?_ (by with_reducible assumption)))⟩
  simp [results, Try.results111, go_sem]
set_option maxHeartbeats 4000000 in
theorem lToGrs (a : Option Addr) (len cap : Nat) (xs : List Gr) (w : World) (hR : InGr w a len cap xs) (hl : len ≤ 1048576) :
    Calls Try.prog 77 #[.slice a len cap] w fun e w' => (e = .returned (.slice (some ⟨w.heap.size, 0, none⟩) len len) ∧ RowGr w' w.heap.size xs) ∧ Below w.heap.size w w' := by
  have hmk := mkGrs w len hl
  have hr0 := RowGr.made w len 148
  have hb0 : Below w.heap.size w (w.alloc (.cells (madeCells #[.int .i64 0, .int .i64 0, .int .i64 0] (len * 3)) 148)) := (Below.refl _ w).alloc (Nat.le_refl _) _
  generalize w.alloc (.cells (madeCells #[.int .i64 0, .int .i64 0, .int .i64 0] (len * 3)) 148) = w0 at *
  have hp := hR.1
  go_enter Try.func77, Try.ntmps77
  go_wp2
  go_loopw [4] (fun a wr => ∃ (i : Nat) (qs : List Gr), i ≤ len ∧ a = .int .i64 i ∧ UptoGr i qs xs ∧ RowGr wr w.heap.size qs ∧ Below w.heap.size w wr) (fun b _ => len - (intOf b).toNat)
  case atStart => exact ⟨0, _, by omega, rfl, UptoGr.zero hp, hr0, hb0⟩
  case round =>
    obtain ⟨i, qs, hk, rfl, hu, hr, hb⟩ := hrel
    by_cases hlt : i < len
    · obtain ⟨bl, off, k, l, r, rfl, hbl, hx, -, c0, c1, c2⟩ := (hR.old hb).at hlt
      go_wp2_with fail
      refine (lToGr k l r _).mono ?_
      rintro e w1 ⟨rfl, hb1⟩
      have hr1 := hr.old hb1
      obtain ⟨k', l', r', d0, d1, d2, f0, f1, f2⟩ := hr1.at (i := i) (by rw [hu.1]; omega)
      go_wp2
      go_roundw
      case rel =>
        refine ⟨i + 1, _, by omega, by go_num, hu.step (by omega), ?_, ?_⟩
        · rw [hx]; exact hr1.set i (by rw [hu.1]; omega) ⟨k, l, r⟩
        · exact (((hb.trans (hb1.mono hb.size)).setCell (p := ⟨w.heap.size, i * 3, none⟩) (Nat.le_refl _) _).setCell (p := ⟨w.heap.size, i * 3 + 1, none⟩) (Nat.le_refl _) _).setCell (p := ⟨w.heap.size, i * 3 + 2, none⟩) (Nat.le_refl _) _
      case measure => simp [intOf]; omega
    · obtain rfl : i = len := by omega
      go_wp2
      go_ret
      subst hp
      exact ⟨⟨rfl, by rw [← hu.all]; exact hr⟩, hb⟩
set_option maxHeartbeats 1000000 in
theorem lEqGr (k : Int) (l : Int) (r : Int) (w : World) :
    Calls Try.prog 127 #[.agg #[.int .i64 k, .int .i64 l, .int .i64 r], .agg #[.int .i64 k, .int .i64 l, .int .i64 r]] w fun e w' => e = .returned (.bool true) ∧ Below w.heap.size w w' := by
  go_enter Try.func127, Try.ntmps127
  go_wp2
  go_ret
  exact ⟨rfl, (by repeat (first | exact Below.refl _ _ | refine Below.drew ?_ | refine old_alloc ?_ _ | refine old_trans ?_ (by assumption)))⟩
theorem two_oldGr {w' w'' : World} {bl bl' o o' : Nat} (k : Int) (l : Int) (r : Int) (hS : w'.cell? ⟨bl, o, none⟩ = some (.int .i64 k) ∧ w'.cell? ⟨bl, o + 1, none⟩ = some (.int .i64 l) ∧ w'.cell? ⟨bl, o + 2, none⟩ = some (.int .i64 r) ∧ w'.cell? ⟨bl', o', none⟩ = some (.int .i64 k) ∧ w'.cell? ⟨bl', o' + 1, none⟩ = some (.int .i64 l) ∧ w'.cell? ⟨bl', o' + 2, none⟩ = some (.int .i64 r)) (q : Below w'.heap.size w' w'') : w''.cell? ⟨bl, o, none⟩ = some (.int .i64 k) ∧ w''.cell? ⟨bl, o + 1, none⟩ = some (.int .i64 l) ∧ w''.cell? ⟨bl, o + 2, none⟩ = some (.int .i64 r) ∧ w''.cell? ⟨bl', o', none⟩ = some (.int .i64 k) ∧ w''.cell? ⟨bl', o' + 1, none⟩ = some (.int .i64 l) ∧ w''.cell? ⟨bl', o' + 2, none⟩ = some (.int .i64 r) := by
  obtain ⟨a0, a1, a2, a3, a4, a5⟩ := hS
  exact ⟨(q.cell (World.block_lt_of_cell? _ _ a0)).trans a0, (q.cell (World.block_lt_of_cell? _ _ a1)).trans a1, (q.cell (World.block_lt_of_cell? _ _ a2)).trans a2, (q.cell (World.block_lt_of_cell? _ _ a3)).trans a3, (q.cell (World.block_lt_of_cell? _ _ a4)).trans a4, (q.cell (World.block_lt_of_cell? _ _ a5)).trans a5⟩
set_option maxHeartbeats 4000000 in
theorem lEqGrs (a a' : Option Addr) (len cap cap' : Nat) (xs : List Gr) (w : World) (hR : InGr w a len cap xs) (hR' : InGr w a' len cap' xs) :
    Calls Try.prog 85 #[.slice a len cap, .slice a' len cap'] w fun e w' => e = .returned (.bool true) ∧ Below w.heap.size w w' := by
  have hlen : len ≤ maxLen := Nat.le_trans hR.2.1 hR.2.2.1
  unfold maxLen at hlen
  go_enter Try.func85, Try.ntmps85
  go_wp2
  go_loopw [5] (fun a wr => ∃ i : Nat, i ≤ len ∧ a = .int .i64 i ∧ Below w.heap.size w wr) (fun b _ => len - (intOf b).toNat)
  case atStart => exact ⟨0, by omega, rfl, (by repeat (first | exact Below.refl _ _ | refine Below.drew ?_ | refine old_alloc ?_ _ | refine old_trans ?_ (by assumption)))⟩
  case round =>
    obtain ⟨i, hk, rfl, hb⟩ := hrel
    by_cases hlt : i < len
    · obtain ⟨bl, off, k, l, r, rfl, hbl, hx, -, c0, c1, c2⟩ := (hR.old hb).at hlt
      obtain ⟨bl', off', k', l', r', rfl, hbl', hx', -, c0', c1', c2'⟩ := (hR'.old hb).at hlt
      obtain ⟨rfl, rfl, rfl⟩ := Gr.mk.inj (hx.symm.trans hx')
      clear hx hx'
      have E := hd (lEqGr k l r)
      go_wp2_with fail
      have U := hd (fun w' (hS : w'.cell? ⟨bl, off + i * 3, none⟩ = some (.int .i64 k) ∧ w'.cell? ⟨bl, off + i * 3 + 1, none⟩ = some (.int .i64 l) ∧ w'.cell? ⟨bl, off + i * 3 + 2, none⟩ = some (.int .i64 r) ∧ w'.cell? ⟨bl', off' + i * 3, none⟩ = some (.int .i64 k) ∧ w'.cell? ⟨bl', off' + i * 3 + 1, none⟩ = some (.int .i64 l) ∧ w'.cell? ⟨bl', off' + i * 3 + 2, none⟩ = some (.int .i64 r)) => (E.out w').mono (fun e w'' (q : _ ∧ _) => (⟨q, two_oldGr k l r hS q.2⟩ : (_ ∧ _) ∧ (w''.cell? ⟨bl, off + i * 3, none⟩ = some (.int .i64 k) ∧ w''.cell? ⟨bl, off + i * 3 + 1, none⟩ = some (.int .i64 l) ∧ w''.cell? ⟨bl, off + i * 3 + 2, none⟩ = some (.int .i64 r) ∧ w''.cell? ⟨bl', off' + i * 3, none⟩ = some (.int .i64 k) ∧ w''.cell? ⟨bl', off' + i * 3 + 1, none⟩ = some (.int .i64 l) ∧ w''.cell? ⟨bl', off' + i * 3 + 2, none⟩ = some (.int .i64 r)))))
      go_region_held3 (fun w' => w'.cell? ⟨bl, off + i * 3, none⟩ = some (.int .i64 k) ∧ w'.cell? ⟨bl, off + i * 3 + 1, none⟩ = some (.int .i64 l) ∧ w'.cell? ⟨bl, off + i * 3 + 2, none⟩ = some (.int .i64 r) ∧ w'.cell? ⟨bl', off' + i * 3, none⟩ = some (.int .i64 k) ∧ w'.cell? ⟨bl', off' + i * 3 + 1, none⟩ = some (.int .i64 l) ∧ w'.cell? ⟨bl', off' + i * 3 + 2, none⟩ = some (.int .i64 r)) (go_keep) (first | (go_at_call 127; refine (U.out _ (by first | assumption | exact ⟨c0, c1, c2, c0', c1', c2'⟩)).mono ?_; rintro e w1 ⟨⟨rfl, hb1⟩, hSS⟩; obtain ⟨g0, g1, g2, g3, g4, g5⟩ := hSS))
      all_goals
        have hB : Below w.heap.size w w1 := hb.drew.trans (hb1.mono hb.size)
        go_wp2
        go_roundw
        case rel => exact ⟨i + 1, by omega, by go_num, hB⟩
        case measure => simp [intOf]; omega
    · obtain rfl : i = len := by omega
      go_wp2
      go_ret
      exact ⟨rfl, hb⟩
end Go.Proofs.Ytmpckbgelkfgpaa

/- A graph in memory: how a law opens, measures, copies and compares it. No condition. -/
namespace Go.Proofs.Ytmpckbgelkfgpaa
open Go.RowKit
set_option linter.unusedVariables false
set_option maxRecDepth 100000

section
variable {H : Type} {enc : TypeId × Value → H} {w : World} {base : Nat}
set_option maxRecDepth 100000 in
theorem open_lgraph {r : Reach} {b0 : Nat} {v : Value} {d : DataW H} {p : List MemPlace} (hv : Value.okWide Try.prog w r b0 65 v) (h : DataW.Trod enc Try.prog w base (fun _ => true) true 65 v d p) :
    ∃ (vs : Int) (a : Option Addr) (len cap : Nat) (xs : List Gn) (a' : Option Addr) (len' cap' : Nat) (ys : List Gr), v = .agg #[.int .i64 vs, .slice a len cap, .slice a' len' cap'] ∧ (-9223372036854775808 ≤ vs ∧ vs ≤ 9223372036854775807) ∧ InGn w a len cap xs ∧ InGr w a' len' cap' ys := by
  obtain ⟨c0, c1, c2, y0, y1, y2, m, rfl, -, -, hy0, hy1, hy2⟩ := Joins.open_agg3 Try.underlying65 (by kernel_rfl) (by kernel_rfl) hv h
  obtain ⟨vs, e0, -, w0⟩ := DataW.trod_int Try.underlying3 hy0
  obtain ⟨a, len, cap, xs, rfl, h1⟩ := open_lGns hy1
  obtain ⟨a', len', cap', ys, rfl, h2⟩ := open_lGrs hy2
  simp at e0
  subst e0
  exact ⟨vs, a, len, cap, xs, a', len', cap', ys, rfl, bounds_i64 w0, h1, h2⟩
end
set_option maxHeartbeats 1000000 in
theorem lSzGn (k u v n l : Int) (s : ByteArray) (hs : s.size ≤ maxLen) (h0 : 0 ≤ l) (h1 : l ≤ 1048576) (w : World) :
    Calls Try.prog 106 #[.agg #[.int .i64 k, .int .i64 u, .int .i64 v, .int .i64 n, .string s], .int .i64 l] w fun e w' => e = .returned (.int .i64 (if (s.size : Int) ≤ l then l - s.size else -1)) ∧ Below w.heap.size w w' := by
  unfold maxLen at hs
  by_cases c : (s.size : Int) ≤ l
  · rw [if_pos c]
    go_enter Try.func106, Try.ntmps106
    go_wp2
    go_ret
    exact ⟨rfl, (by repeat (first | exact Below.refl _ _ | refine Below.drew ?_ | refine old_alloc ?_ _ | refine old_trans ?_ (by assumption)))⟩
  · rw [if_neg c]
    go_enter Try.func106, Try.ntmps106
    go_wp2
    go_ret
    exact ⟨rfl, (by repeat (first | exact Below.refl _ _ | refine Below.drew ?_ | refine old_alloc ?_ _ | refine old_trans ?_ (by assumption)))⟩
set_option maxHeartbeats 2000000 in
theorem lSzGns (a : Option Addr) (len cap : Nat) (xs : List Gn) (w : World) (hR : InGn w a len cap xs) :
    Calls Try.prog 71 #[.slice a len cap, .int .i64 1048576] w fun e w' => (∃ r : Int, e = .returned (.int .i64 r) ∧ (r = -1 ∨ (0 ≤ r ∧ r ≤ 1048576 ∧ len ≤ 1048576))) ∧ Below w.heap.size w w' := by
  have hlen : len ≤ maxLen := Nat.le_trans hR.2.1 hR.2.2.1
  unfold maxLen at hlen
  by_cases hl : len ≤ 1048576
  case neg =>
    go_enter Try.func71, Try.ntmps71
    go_wp2
    go_ret
    exact ⟨⟨_, rfl, .inl rfl⟩, (by repeat (first | exact Below.refl _ _ | refine Below.drew ?_ | refine old_alloc ?_ _ | refine old_trans ?_ (by assumption)))⟩
  go_enter Try.func71, Try.ntmps71
  go_wp2
  go_loopw [1, 5] (fun l i wr => ∃ (j : Nat) (r : Int), j ≤ len ∧ i = .int .i64 j ∧ l = .int .i64 r ∧ 0 ≤ r ∧ r ≤ 1048576 ∧ Below w.heap.size w wr) (fun _ i _ => len - (intOf i).toNat)
  case atStart => exact ⟨0, 1048576 - len, by omega, rfl, rfl, by omega, by omega, (by repeat (first | exact Below.refl _ _ | refine Below.drew ?_ | refine old_alloc ?_ _ | refine old_trans ?_ (by assumption)))⟩
  case round =>
    obtain ⟨j, r, hk, rfl, rfl, hr0, hr1, hb⟩ := hrel
    by_cases hlt : j < len
    · obtain ⟨bl, off, k, u, v, n, s, rfl, hbl, hx, hf, c0, c1, c2, c3, c4⟩ := (hR.old hb).at hlt
      have Z := hd (lSzGn k u v n r s hf.2.2.2.2 hr0 hr1)
      by_cases c : (s.size : Int) ≤ r
      · rw [if_pos c] at Z
        have c' : 0 ≤ r - s.size := by omega
        have c'' : r - s.size ≤ 1048576 := by omega
        clear hf c
        generalize r - s.size = r2 at *
        go_wp2_with fail
        refine (Z.out _).mono ?_
        rintro e w1 ⟨rfl, hb1⟩
        go_wp2
        go_roundw
        case rel => exact ⟨j + 1, r2, by omega, by go_num, rfl, c', c'', hb.trans (hb1.mono hb.size)⟩
        case measure => simp [intOf]; omega
      · rw [if_neg c] at Z
        clear hf c
        go_wp2_with fail
        refine (Z.out _).mono ?_
        rintro e w1 ⟨rfl, hb1⟩
        go_wp2
        go_ret
        exact ⟨⟨_, rfl, .inl rfl⟩, hb.trans (hb1.mono hb.size)⟩
    · obtain rfl : j = len := by omega
      go_wp2
      go_ret
      exact ⟨⟨_, rfl, .inr ⟨hr0, hr1, hl⟩⟩, hb⟩
set_option maxHeartbeats 1000000 in
theorem lSzGrs (a : Option Addr) (len cap : Nat) (hlen : len ≤ maxLen) (l : Int) (h0 : 0 ≤ l) (h1 : l ≤ 1048576) (w : World) :
    Calls Try.prog 72 #[.slice a len cap, .int .i64 l] w fun e w' => (∃ r : Int, e = .returned (.int .i64 r) ∧ (r = -1 ∨ (0 ≤ r ∧ r ≤ 1048576 ∧ len ≤ 1048576))) ∧ Below w.heap.size w w' := by
  unfold maxLen at hlen
  by_cases c : (len : Int) ≤ l
  · go_enter Try.func72, Try.ntmps72
    go_wp2
    go_ret
    exact ⟨⟨_, rfl, .inr ⟨by omega, by omega, by omega⟩⟩, (by repeat (first | exact Below.refl _ _ | refine Below.drew ?_ | refine old_alloc ?_ _ | refine old_trans ?_ (by assumption)))⟩
  · go_enter Try.func72, Try.ntmps72
    go_wp2
    go_ret
    exact ⟨⟨_, rfl, .inl rfl⟩, (by repeat (first | exact Below.refl _ _ | refine Below.drew ?_ | refine old_alloc ?_ _ | refine old_trans ?_ (by assumption)))⟩
set_option maxHeartbeats 1000000 in
theorem lSzGraph (vs : Int) (a : Option Addr) (len cap : Nat) (xs : List Gn) (a' : Option Addr) (len' cap' : Nat) (ys : List Gr) (w : World) (hR : InGn w a len cap xs) (hR' : InGr w a' len' cap' ys) :
    Calls Try.prog 31 #[.agg #[.int .i64 vs, .slice a len cap, .slice a' len' cap'], .int .i64 1048576] w fun e w' => (∃ r : Int, e = .returned (.int .i64 r) ∧ (r = -1 ∨ (0 ≤ r ∧ r ≤ 1048576 ∧ len ≤ 1048576 ∧ len' ≤ 1048576))) ∧ Below w.heap.size w w' := by
  have hl' : len' ≤ maxLen := Nat.le_trans hR'.2.1 hR'.2.2.1
  have K := CS.made w _ rfl #[.int .i64 vs, .slice a len cap, .slice a' len' cap'] 65
  have hB0 : Below w.heap.size w (w.alloc (.cells #[.int .i64 vs, .slice a len cap, .slice a' len' cap'] 65)) := old_alloc (Below.refl _ _) _
  have Z := hd (lSzGns a len cap xs _ (hR.al (.cells #[.int .i64 vs, .slice a len cap, .slice a' len' cap'] 65)))
  have Y := hd (fun l h0 h1 W => lSzGrs a' len' cap' hl' l h0 h1 W)
  clear hR hR' hl'
  go_enter Try.func31, Try.ntmps31
  go_wp2_with fail
  refine Z.out.mono ?_
  rintro e w1 ⟨⟨r, rfl, hr⟩, hb1⟩
  have hB := old_trans hB0 hb1
  replace K := K.later hb1
  have k2 := K.cell 2 _ rfl
  rcases hr with rfl | ⟨h0, h1, h2⟩
  · go_wp2
    go_ret
    exact ⟨⟨_, rfl, .inl rfl⟩, hB⟩
  · have hn : ¬ r < 0 := by omega
    have Y1 := hd (Y.out r h0 h1)
    clear Y Z
    go_wp2_with fail
    refine (Y1.out _).mono ?_
    rintro e w2 ⟨⟨r2, rfl, hr2⟩, hb2⟩
    rcases hr2 with rfl | ⟨g0, g1, g2⟩
    · go_wp2
      go_ret
      exact ⟨⟨_, rfl, .inl rfl⟩, old_trans hB hb2⟩
    · have hn2 : ¬ r2 < 0 := by omega
      go_wp2
      go_ret
      exact ⟨⟨_, rfl, .inr ⟨g0, g1, h2, g2⟩⟩, old_trans hB hb2⟩
set_option maxHeartbeats 1000000 in
theorem lEqGraph (vs : Int) (a : Option Addr) (len cap : Nat) (xs : List Gn) (a' : Option Addr) (len' cap' : Nat) (ys : List Gr) (b b' : Option Addr) (cap2 cap2' : Nat) (w : World) (hR : InGn w a len cap xs) (hR' : InGr w a' len' cap' ys) (hQ : InGn w b len cap2 xs) (hQ' : InGr w b' len' cap2' ys) :
    Calls Try.prog 35 #[.agg #[.int .i64 vs, .slice a len cap, .slice a' len' cap'], .agg #[.int .i64 vs, .slice b len cap2, .slice b' len' cap2']] w fun e w' => e = .returned (.bool true) ∧ Below w.heap.size w w' := by
  have e0 : Below w.heap.size w ((w.alloc (.cells #[.int .i64 vs, .slice a len cap, .slice a' len' cap'] 71)).alloc (.cells #[.int .i64 vs, .slice b len cap2, .slice b' len' cap2'] 71)) := old_alloc (old_alloc (Below.refl _ _) _) _
  have K := (CS.made w _ rfl #[.int .i64 vs, .slice a len cap, .slice a' len' cap'] 71).alloc (.cells #[.int .i64 vs, .slice b len cap2, .slice b' len' cap2'] 71)
  have K' := CS.made (w.alloc (.cells #[.int .i64 vs, .slice a len cap, .slice a' len' cap'] 71)) (w.heap.size + 1) (by simp) #[.int .i64 vs, .slice b len cap2, .slice b' len' cap2'] 71
  have E := hd (lEqGns a b len cap cap2 xs _ (hR.old e0) (hQ.old e0))
  have F := hd (fun W (h : Below w.heap.size w W) => lEqGrs a' b' len' cap' cap2' ys W (hR'.old h) (hQ'.old h))
  clear hR hR' hQ hQ'
  go_enter Try.func35, Try.ntmps35
  go_wp2_with fail
  refine E.out.mono ?_
  rintro e w1 ⟨rfl, hb1⟩
  have k2 := (K.later hb1).cell 2 _ rfl
  have k2' := (K'.later hb1).cell 2 _ rfl
  have hB := old_trans e0 hb1
  clear E K K'
  go_wp2_with fail
  refine (F.out _ hB).mono ?_
  rintro e w2 ⟨rfl, hb2⟩
  go_wp2
  go_ret
  exact ⟨rfl, old_trans hB hb2⟩
end Go.Proofs.Ytmpckbgelkfgpaa
