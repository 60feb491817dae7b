/- Lists of terms in memory: where they lie, how a law opens them; lists of one's own; blocks that are left alone. No condition. -/
import Derived.Test.YtcdhmimbnnicnaaPK07
import Derived.Test.YtcdhmimbnnicnaaPK13
import Derived.Test.YtcdhmimbnnicnaaPK02
import Derived.Test.YtcdhmimbnnicnaaPK14
import Derived.Deep.RegionHeld3
import Derived.Test.YtcdhmimbnnicnaaPK12
namespace Go.Proofs.Ytcdhmimbnnicnaa
open Go.ChangeShapes Go.WideShapes Go.ChangeAt Go.RowKit
set_option linter.unusedVariables false
set_option maxRecDepth 100000

structure Te where
  a : Option Addr
  c : Nat
  xs : List Tn
def te0 : Te := ⟨none, 0, []⟩
def TeIn (w : World) (t : Te) : Prop := InN w t.a t.xs.length t.c t.xs
def teV (t : Te) : Value := .slice t.a t.xs.length t.c
def InTs (w : World) (a : Option Addr) (len cap : Nat) (ts : List Te) : Prop :=
  ts.length = len ∧ len ≤ cap ∧ cap ≤ maxLen ∧ (∀ t ∈ ts, TeIn w t) ∧
  (len = 0 ∨ ∃ b off : Nat, a = some ⟨b, off, none⟩ ∧ b < w.heap.size ∧ ∀ i, i < len → w.cell? ⟨b, off + i, none⟩ = some (teV (ts.getD i te0)))
theorem InTs.old {w w' : World} {a : Option Addr} {len cap : Nat} {ts : List Te} (h : InTs w a len cap ts) (b : Below w.heap.size w w') : InTs w' a len cap ts := by
  obtain ⟨h1, h2, h3, h4, h5⟩ := h
  refine ⟨h1, h2, h3, fun t ht => (h4 t ht).old b, ?_⟩
  rcases h5 with h5 | ⟨bb, off, q1, q2, q3⟩
  · exact .inl h5
  · exact .inr ⟨bb, off, q1, Nat.lt_of_lt_of_le q2 b.size, fun i hi => (b.cell (p := ⟨bb, off + i, none⟩) q2).trans (q3 i hi)⟩
theorem InTs.al {w : World} {a : Option Addr} {len cap : Nat} {ts : List Te} (h : InTs w a len cap ts) (o : Obj) : InTs (w.alloc o) a len cap ts := h.old ((Below.refl _ _).alloc (Nat.le_refl _) o)
theorem InTs.dr {w : World} {a : Option Addr} {len cap : Nat} {ts : List Te} (h : InTs w a len cap ts) : InTs w.drew a len cap ts := h.old (Below.drew (Below.refl _ _))
theorem getD_memTe {ts : List Te} {k : Nat} (hk : k < ts.length) : ts.getD k te0 ∈ ts := by
  have e2 : ts.getD k te0 = ts[k]'hk := by rw [List.getD_eq_getElem?_getD, List.getElem?_eq_getElem hk]; rfl
  rw [e2]
  exact List.getElem_mem _
theorem InTs.at {w : World} {a : Option Addr} {len cap : Nat} {ts : List Te} (h : InTs w a len cap ts) {i : Nat} (hi : i < len) : ∃ (bl off : Nat) (t : Te), a = some ⟨bl, off, none⟩ ∧ bl < w.heap.size ∧ ts.getD i te0 = t ∧ TeIn w t ∧ w.cell? ⟨bl, off + i, none⟩ = some (.slice t.a t.xs.length t.c) := by
  rcases h.2.2.2.2 with h0 | ⟨b, off, e, hb, hc⟩
  · omega
  · have hl := h.1
    exact ⟨b, off, _, e, hb, rfl, h.2.2.2.1 _ (getD_memTe (by omega)), hc i hi⟩
section
variable {H : Type} {enc : TypeId × Value → H} {w : World} {base : Nat}
set_option maxRecDepth 100000 in
theorem open_lterms {r : Reach} {b0 : Nat} {v : Value} {d : DataW H} {p : List MemPlace} (hv : Value.okWide Try.prog w r b0 26 v) (h : DataW.Trod enc Try.prog w base (fun _ => true) true 26 v d p) :
    ∃ (a : Option Addr) (len cap : Nat) (ts : List Te), v = .slice a len cap ∧ InTs w a len cap ts := by
  obtain ⟨a0, l0, c0, rfl⟩ := okWide_slice Try.underlying26 hv
  obtain ⟨n, h1⟩ := h
  replace h1 : DataW.trod enc Try.prog w base (fun _ => true) true n 26 [.slice a0 l0 c0] = some (d, p) := h1
  rcases Deep.open_slice Try.underlying26 h1 with ⟨hc, -⟩ | ⟨a, len, cap, m, k, D, Pl, hc, hb, hl, hm, hmm, -, hx⟩
  · simp at hc
    obtain ⟨rfl, rfl, rfl⟩ := hc
    exact ⟨none, 0, 0, [], rfl, rfl, Nat.le_refl _, Nat.zero_le _, by simp, .inl rfl⟩
  simp at hc
  obtain ⟨rfl, rfl, rfl⟩ := hc
  simp at hmm
  subst hmm
  have ce : Try.prog.cellsOf 24 = 1 := by kernel_rfl
  rw [ce] at hx
  have hz : ∀ i, ∃ t : Te, i < m → TeIn w t ∧ w.cells? base (a.add (i * 1)) 1 = some [teV t] := by
    intro i
    by_cases hi : i < m
    · obtain ⟨cs', hcs, ht⟩ := hx i hi
      have hlen := (World.cells?_some hcs).2.1
      match cs', hlen with
      | [c], _ =>
        obtain ⟨y0, n', -, -, h0⟩ := trod_struct1 Try.underlying24 ht
        have h1' : DataW.trod enc Try.prog w base (fun _ => true) true n' 22 [c] = some y0 := h0
        obtain ⟨a1, l1, c1, xs, rfl, i1⟩ := open_lnodes h1'
        obtain rfl := i1.1
        exact ⟨⟨a1, c1, xs⟩, fun _ => ⟨i1, hcs⟩⟩
    · exact ⟨te0, fun h => absurd h hi⟩
  obtain ⟨f, hff⟩ := Classical.axiomOfChoice hz
  refine ⟨some a, l0, m, (List.range l0).map f, rfl, by simp, hl, hm, ?_, ?_⟩
  · intro p hp
    obtain ⟨i, hi, rfl⟩ := List.mem_map.1 hp
    exact (hff i (by have := List.mem_range.1 hi; omega)).1
  by_cases h0 : l0 = 0
  · exact .inl h0
  obtain ⟨b, off, spot⟩ := a
  have e0 : w.cell? ((⟨b, off, spot⟩ : Addr).add (0 * 1) |>.add 0) = _ := (World.cells?_some (hff 0 (by omega)).2).2.2 0 (by omega)
  have hspot : spot = none := by simpa [Addr.add] using World.cell?_spot e0
  subst hspot
  refine .inr ⟨b, off, rfl, by simpa [Addr.add] using World.block_lt_of_cell? w _ e0, fun i hi => ?_⟩
  have ad : ∀ o j, (⟨b, o, none⟩ : Addr).add j = ⟨b, o + j, none⟩ := by
    intro o j
    by_cases h : j = 0
    · subst h; simp [Addr.add]
    · simp [Addr.add, h]
  have q0 := (World.cells?_some (hff i (by omega)).2).2.2 0 (by omega)
  rw [ad, ad] at q0
  have eg : ((List.range l0).map f).getD i te0 = f i := by
    rw [List.getD_eq_getElem?_getD, List.getElem?_map, List.getElem?_range hi]; rfl
  rw [eg]
  simpa using q0
end
/-- how many nodes the first of them have -/
def sumU (ts : List Te) : Nat → Nat
  | 0 => 0
  | j + 1 => sumU ts j + (ts.getD j te0).xs.length
theorem sumU_same {ts us : List Te} : ∀ (j : Nat), (∀ i, i < j → (ts.getD i te0).xs = (us.getD i te0).xs) → sumU ts j = sumU us j
  | 0, _ => rfl
  | j + 1, h => by unfold sumU; rw [sumU_same j (fun i hi => h i (by omega)), h j (by omega)]
theorem sumU_mono {ts : List Te} {i : Nat} : ∀ (j : Nat), i ≤ j → sumU ts i ≤ sumU ts j
  | 0, h => by have : i = 0 := by omega
               subst this; exact Nat.le_refl _
  | j + 1, h => by
    by_cases e : i = j + 1
    · subst e; exact Nat.le_refl _
    · have q := sumU_mono (ts := ts) (i := i) j (by omega)
      show sumU ts i ≤ sumU ts j + _
      omega
theorem sumU_at {ts : List Te} {i j : Nat} (h : i < j) : (ts.getD i te0).xs.length ≤ sumU ts j := by
  have q : sumU ts i + (ts.getD i te0).xs.length ≤ sumU ts j := sumU_mono (ts := ts) (i := i + 1) j h
  omega
/-- a list of terms of one's own: the block of each one's nodes -/
def tg0 : Nat × List Tn := (0, [])
def tgE (g : Nat × List Tn) : Te := ⟨some ⟨g.1, 0, none⟩, g.2.length, g.2⟩
def tgV (g : Nat × List Tn) : Value := .slice (some ⟨g.1, 0, none⟩) g.2.length g.2.length
structure GTs (w : World) (base b top : Nat) (gs : List (Nat × List Tn)) : Prop where
  ge : base ≤ b
  cs : CS w b (gs.map tgV)
  row : ∀ i, i < gs.length → (b < (gs.getD i tg0).1 ∧ (gs.getD i tg0).1 < top) ∧ RowN w (gs.getD i tg0).1 (gs.getD i tg0).2 ∧ TnFits (gs.getD i tg0).2 ∧ (gs.getD i tg0).2.length ≤ maxLen
  up : ∀ i j, i < j → j < gs.length → (gs.getD i tg0).1 < (gs.getD j tg0).1
  len : gs.length ≤ maxLen
  hi : b < top ∧ top ≤ w.heap.size
theorem GTs.later {w w' : World} {base b top : Nat} {gs : List (Nat × List Tn)} (h : GTs w base b top gs) (k : Below w.heap.size w w') : GTs w' base b top gs :=
  ⟨h.ge, h.cs.later k, fun i hi => ⟨(h.row i hi).1, (h.row i hi).2.1.old k, (h.row i hi).2.2⟩, h.up, h.len, h.hi.1, Nat.le_trans h.hi.2 k.size⟩
theorem GTs.alloc {w : World} {base b top : Nat} {gs : List (Nat × List Tn)} (h : GTs w base b top gs) (o : Obj) : GTs (w.alloc o) base b top gs := h.later ((Below.refl _ _).alloc (Nat.le_refl _) o)
theorem GTs.drew {w : World} {base b top : Nat} {gs : List (Nat × List Tn)} (h : GTs w base b top gs) : GTs w.drew base b top gs := h.later (Below.refl _ _).drew
theorem GTs.kept {w w' : World} {base b top : Nat} {gs : List (Nat × List Tn)} {row : Option Nat} (h : GTs w base b top gs) (g : w.grownBy w' row) (hne : ∀ r, row = some r → r < b ∨ top ≤ r) : GTs w' base b top gs := by
  have far : ∀ x, b ≤ x → x < top → some x ≠ row := fun x h1 h2 e => by have := hne x e.symm; omega
  exact ⟨h.ge, h.cs.keptTn g (far _ (Nat.le_refl _) h.hi.1), fun i hi => ⟨(h.row i hi).1, (h.row i hi).2.1.kept g (far _ (by have := (h.row i hi).1; omega) (h.row i hi).1.2), (h.row i hi).2.2⟩, h.up, h.len, h.hi.1, Nat.le_trans h.hi.2 g.size⟩
theorem map_getD {gs : List (Nat × List Tn)} {i : Nat} (hi : i < gs.length) : (gs.map tgE).getD i te0 = tgE (gs.getD i tg0) := by
  simp [List.getD_eq_getElem?_getD, hi]
theorem GTs.inTs {w : World} {base b top : Nat} {gs : List (Nat × List Tn)} (h : GTs w base b top gs) : InTs w (some ⟨b, 0, none⟩) gs.length gs.length (gs.map tgE) := by
  refine ⟨by simp, Nat.le_refl _, h.len, fun t ht => ?_, .inr ⟨b, 0, rfl, h.cs.lt, fun i hi => ?_⟩⟩
  · obtain ⟨g, hg, rfl⟩ := List.mem_map.1 ht
    obtain ⟨i, hi, rfl⟩ := List.mem_iff_getElem.1 hg
    have q := h.row i hi
    have eg : gs.getD i tg0 = gs[i] := by simp [List.getD_eq_getElem?_getD, hi]
    rw [eg] at q
    exact q.2.1.inN q.2.2.1 (Nat.le_refl _) q.2.2.2
  · rw [map_getD hi, Nat.zero_add]
    refine h.cs.cell i _ ?_
    simp [List.getD_eq_getElem?_getD, hi, tgV, teV, tgE]
/-- what lies in blocks that were left alone -/
theorem RowN.same {w w' : World} {b : Nat} {xs : List Tn} (h : RowN w b xs) (e : w'.heap[b]? = w.heap[b]?) (hs : w.heap.size ≤ w'.heap.size) : RowN w' b xs := by
  refine ⟨Nat.lt_of_lt_of_le h.1 hs, fun i hi => ?_⟩
  obtain ⟨⟨h1, h2, h3⟩, f1, f2, f3⟩ := h.2 i hi
  exact ⟨⟨(World.cell?_of_block (a := ⟨b, i * 3, none⟩) e).trans h1, (World.cell?_of_block (a := ⟨b, i * 3 + 1, none⟩) e).trans h2, (World.cell?_of_block (a := ⟨b, i * 3 + 2, none⟩) e).trans h3⟩, (World.frozen?_of_block (a := ⟨b, i * 3, none⟩) e).trans f1, (World.frozen?_of_block (a := ⟨b, i * 3 + 1, none⟩) e).trans f2, (World.frozen?_of_block (a := ⟨b, i * 3 + 2, none⟩) e).trans f3⟩
theorem OTn.out {w w' : World} {C : Nat → Prop} {base cv : Nat} {av : Option Addr} {xs : List Tn} (h : OTn w base av cv xs) (k : Out C w w') (hn : ∀ q, av = some q → ¬ C q.block) : OTn w' base av cv xs := by
  obtain ⟨h1, h2, h3, h4 | ⟨g, h4, h5, h6⟩⟩ := h
  · exact ⟨h1, h2, h3, .inl h4⟩
  · exact ⟨h1, h2, h3, .inr ⟨g, h4, h5, h6.same (k.same _ h6.1 (hn _ h4)) k.size⟩⟩
theorem Cl1.out {w w' : World} {C : Nat → Prop} {b : Nat} {x : Value} (h : Cl1 w b x) (k : Out C w w') (hn : ¬ C b) : Cl1 w' b x := by
  have e := k.same b h.2.2 hn
  exact ⟨(World.cell?_of_block (a := ⟨b, 0, none⟩) e).trans h.1, (World.frozen?_of_block (a := ⟨b, 0, none⟩) e).trans h.2.1, Nat.lt_of_lt_of_le h.2.2 k.size⟩
theorem AnyC.kept {w w' : World} {b n : Nat} {row : Option Nat} (h : AnyC w b n) (g : w.grownBy w' row) (hne : some b ≠ row) : AnyC w' b n := by
  have e := g.block b h.1 hne
  refine ⟨Nat.lt_of_lt_of_le h.1 g.size, fun i hi => ?_⟩
  obtain ⟨⟨u, v, s, h1, h2, h3⟩, f1, f2, f3⟩ := h.2 i hi
  exact ⟨⟨u, v, s, (World.cell?_of_block (a := ⟨b, i * 3, none⟩) e).trans h1, (World.cell?_of_block (a := ⟨b, i * 3 + 1, none⟩) e).trans h2, (World.cell?_of_block (a := ⟨b, i * 3 + 2, none⟩) e).trans h3⟩, (World.frozen?_of_block (a := ⟨b, i * 3, none⟩) e).trans f1, (World.frozen?_of_block (a := ⟨b, i * 3 + 1, none⟩) e).trans f2, (World.frozen?_of_block (a := ⟨b, i * 3 + 2, none⟩) e).trans f3⟩
end Go.Proofs.Ytcdhmimbnnicnaa

/- Lists of terms, as a law measures, copies, compares and marks them. Conditions: sizes to 2^20. -/
namespace Go.Proofs.Ytcdhmimbnnicnaa
open Go.RowKit
set_option linter.unusedVariables false
set_option maxRecDepth 100000

set_option maxHeartbeats 2000000 in
theorem lSzNodesL (a : Option Addr) (len cap : Nat) (xs : List Tn) (l : Int) (h0 : 0 ≤ l) (h1 : l ≤ 1048576) (w : World) (hR : InN w a len cap xs) :
    Calls Try.prog 37 #[.slice a len cap, .int .i64 l] w fun e w' => (∃ r : Int, e = .returned (.int .i64 r) ∧ (r = -1 ∨ (0 ≤ r ∧ r ≤ l - len))) ∧ Below w.heap.size w w' := by
  have hlen : len ≤ maxLen := Nat.le_trans hR.2.1 hR.2.2.1
  unfold maxLen at hlen
  by_cases hl : (len : Int) ≤ l
  case neg =>
    go_enter Try.func37, Try.ntmps37
    go_wp2
    go_ret
    exact ⟨⟨_, rfl, .inl rfl⟩, (by repeat (first | exact Below.refl _ _ | refine Below.drew ?_ | refine old_alloc ?_ _ | refine old_trans ?_ (by assumption)))⟩
  go_enter Try.func37, Try.ntmps37
  go_wp2
  go_loopw [1, 5] (fun s i wr => ∃ (k : Nat) (r : Int), k ≤ len ∧ i = .int .i64 k ∧ s = .int .i64 r ∧ 0 ≤ r ∧ r ≤ l - len ∧ Below w.heap.size w wr) (fun _ i _ => len - (intOf i).toNat)
  case atStart => exact ⟨0, l - len, by omega, rfl, rfl, by omega, by omega, (by repeat (first | exact Below.refl _ _ | refine Below.drew ?_ | refine old_alloc ?_ _ | refine old_trans ?_ (by assumption)))⟩
  case round =>
    obtain ⟨k, r, hk, rfl, rfl, hr0, hr1, hb⟩ := hrel
    by_cases hlt : k < len
    · obtain ⟨b, off, x, y, s, rfl, hbl, hx, hf, c0, c1, c2⟩ := (hR.old hb).at hlt
      have Z := hd (lSzNode x y r s hf.2.2 hr0 (by omega))
      by_cases c : (s.size : Int) ≤ r
      · rw [if_pos c] at Z
        have c' : 0 ≤ r - s.size := by omega
        have c'' : r - s.size ≤ l - len := by omega
        clear hf c
        generalize r - s.size = r2 at *
        go_wp2_with fail
        refine (Z.out _).mono ?_
        rintro e w1 ⟨rfl, hb1⟩
        go_wp2
        go_roundw
        case rel => exact ⟨k + 1, r2, by omega, by go_num, rfl, c', c'', hb.trans (hb1.mono hb.size)⟩
        case measure => simp [intOf]; omega
      · rw [if_neg c] at Z
        clear hf c
        go_wp2_with fail
        refine (Z.out _).mono ?_
        rintro e w1 ⟨rfl, hb1⟩
        go_wp2
        go_ret
        exact ⟨⟨_, rfl, .inl rfl⟩, hb.trans (hb1.mono hb.size)⟩
    · obtain rfl : k = len := by omega
      go_wp2
      go_ret
      exact ⟨⟨_, rfl, .inr ⟨hr0, hr1⟩⟩, hb⟩
set_option maxHeartbeats 1000000 in
theorem lSzTermL (a : Option Addr) (len cap : Nat) (xs : List Tn) (l : Int) (h0 : 0 ≤ l) (h1 : l ≤ 1048576) (w : World) (hR : InN w a len cap xs) :
    Calls Try.prog 6 #[.agg #[.slice a len cap], .int .i64 l] w fun e w' => (∃ r : Int, e = .returned (.int .i64 r) ∧ (r = -1 ∨ (0 ≤ r ∧ r ≤ l - len))) ∧ Below w.heap.size w w' := by
  have Z := hd (lSzNodesL a len cap xs l h0 h1 _ (hR.old ((Below.refl _ w).alloc (Nat.le_refl _) (.cells #[.slice a len cap] 24))))
  clear hR
  go_enter Try.func6, Try.ntmps6
  go_wp2_with fail
  refine Z.out.mono ?_
  rintro e w1 ⟨⟨r, rfl, hr⟩, hb1⟩
  have hB : Below w.heap.size w w1 := ((Below.refl _ w).alloc (Nat.le_refl _) _).trans (hb1.mono (by simp))
  rcases hr with rfl | ⟨hr0, hr1⟩
  · go_wp2
    go_ret
    exact ⟨⟨_, rfl, .inl rfl⟩, hB⟩
  · go_wp2
    go_ret
    exact ⟨⟨_, rfl, .inr ⟨hr0, hr1⟩⟩, hB⟩
set_option maxHeartbeats 2000000 in
theorem lSzTs (a : Option Addr) (len cap : Nat) (ts : List Te) (l : Int) (h0 : 0 ≤ l) (h1 : l ≤ 1048576) (w : World) (hR : InTs w a len cap ts) :
    Calls Try.prog 8 #[.slice a len cap, .int .i64 l] w fun e w' => (∃ r : Int, e = .returned (.int .i64 r) ∧ (r = -1 ∨ (0 ≤ r ∧ r ≤ l - len - sumU ts len))) ∧ Below w.heap.size w w' := by
  have hlen : len ≤ maxLen := Nat.le_trans hR.2.1 hR.2.2.1
  unfold maxLen at hlen
  by_cases hl : (len : Int) ≤ l
  case neg =>
    go_enter Try.func8, Try.ntmps8
    go_wp2
    go_ret
    exact ⟨⟨_, rfl, .inl rfl⟩, (by repeat (first | exact Below.refl _ _ | refine Below.drew ?_ | refine old_alloc ?_ _ | refine old_trans ?_ (by assumption)))⟩
  go_enter Try.func8, Try.ntmps8
  go_wp2
  go_loopw [1, 5] (fun s i wr => ∃ (j : Nat) (r : Int), j ≤ len ∧ i = .int .i64 j ∧ s = .int .i64 r ∧ 0 ≤ r ∧ Hid (r ≤ l - len - sumU ts j) ∧ r ≤ 1048576 ∧ Below w.heap.size w wr) (fun _ i _ => len - (intOf i).toNat)
  case atStart => exact ⟨0, l - len, by omega, rfl, rfl, by omega, by show _ ≤ l - len - (0 : Nat); omega, by omega, (by repeat (first | exact Below.refl _ _ | refine Below.drew ?_ | refine old_alloc ?_ _ | refine old_trans ?_ (by assumption)))⟩
  case round =>
    obtain ⟨j, r, hk, rfl, rfl, hr0, hr1, hr2, hb⟩ := hrel
    by_cases hlt : j < len
    · obtain ⟨bl, off, t, rfl, hbl, hx, hf, c0⟩ := (hR.old hb).at hlt
      have Z := hd (lSzTermL t.a t.xs.length t.c t.xs r hr0 hr2 _ hf)
      have hs : Hid (∀ r' : Int, r' ≤ r - t.xs.length → r' ≤ l - len - sumU ts (j + 1)) := fun r' h => by
        have := hr1.out
        unfold sumU
        rw [hx]
        omega
      clear hx hf
      go_wp2_with fail
      refine Z.out.mono ?_
      rintro e w1 ⟨⟨r', rfl, hr'⟩, hb1⟩
      rcases hr' with rfl | ⟨q0, q1⟩
      · go_wp2
        go_ret
        exact ⟨⟨_, rfl, .inl rfl⟩, hb.trans (hb1.mono hb.size)⟩
      · have hs2 := hd (hs.out r' q1)
        have q2 : r' ≤ 1048576 := by omega
        clear hs q1
        go_wp2
        go_roundw
        case rel => exact ⟨j + 1, r', by omega, by go_num, rfl, q0, hs2.out, q2, hb.trans (hb1.mono hb.size)⟩
        case measure => simp [intOf]; omega
    · obtain rfl : j = len := by omega
      go_wp2
      go_ret
      exact ⟨⟨_, rfl, .inr ⟨hr0, hr1.out⟩⟩, hb⟩
theorem infoTe : (Try.prog.info? 32).map (fun i => (i.zero, i.size, i.bytes)) = some (some (.agg #[.slice none 0 0]), 1, 24) := by kernel_rfl
theorem mkTes (w : World) (n : Nat) (hn : n ≤ 1048576) : (Instr.makeSlice 37 (.int .i64 (n : Int)) (.int .i64 (n : Int))).run Try.prog w = .ok (.slice (some ⟨w.heap.size, 0, none⟩) n n) (w.alloc (.cells (madeCells #[.slice none 0 0] (n * 1)) 32)) := by
  obtain ⟨i, h1, h2, h3, h4⟩ := info_parts infoTe
  have h := run_make (P := Try.prog) w 37 32 i _ Try.underlying37 h1 h2 .i64 .i64 n n (by omega) (by omega) (by rw [h4]; omega) (by omega)
  rw [h3] at h
  exact h
theorem CS.madeTe (w : World) (n : Nat) (t : TypeId) : CS (w.alloc (.cells (madeCells #[.slice none 0 0] (n * 1)) t)) w.heap.size (List.replicate n (.slice none 0 0)) := by
  refine ⟨fun i v hv => ?_, fun i hi => by simp, by simp⟩
  have hi : i < n := by have := (List.getElem?_eq_some_iff.1 hv).1; simpa using this
  rw [List.getElem?_replicate, if_pos hi] at hv
  obtain rfl := Option.some.inj hv
  have e0 : (madeCells #[Value.slice none 0 0] (n * 1))[i]? = some (.slice none 0 0) := by
    simp [madeCells, show i < n by omega, Nat.mod_one]
  simpa using e0
theorem set_next (xs : List Value) (n : Nat) (v u : Value) : (xs ++ List.replicate (n + 1) v).set xs.length u = (xs ++ [u]) ++ List.replicate n v := by
  rw [List.set_append_right _ _ (Nat.le_refl _), Nat.sub_self, List.replicate_succ, List.set_cons_zero, List.append_assoc]
  rfl
theorem snoc_getD {gs : List (Nat × List Tn)} {g : Nat × List Tn} {i : Nat} : (gs ++ [g]).getD i tg0 = if i < gs.length then gs.getD i tg0 else if i = gs.length then g else tg0 := by
  rw [List.getD_eq_getElem?_getD, List.getD_eq_getElem?_getD]
  by_cases h : i < gs.length
  · rw [List.getElem?_append_left h, if_pos h]
  · rw [if_neg h, List.getElem?_append_right (by omega)]
    by_cases e : i = gs.length
    · subst e; simp
    · rw [if_neg e, List.getElem?_eq_none (by simp; omega)]; rfl
set_option maxHeartbeats 4000000 in
theorem lToTs (a : Option Addr) (len cap : Nat) (ts : List Te) (w : World) (hR : InTs w a len cap ts) (hl : len ≤ 1048576) (hd2 : ∀ i, i < len → (ts.getD i te0).xs.length ≤ 1048576) :
    Calls Try.prog 12 #[.slice a len cap] w fun e w' => (∃ (b : Nat) (gs : List (Nat × List Tn)), e = .returned (.slice (some ⟨b, 0, none⟩) len len) ∧ gs.length = len ∧ (∀ i, i < len → (gs.getD i tg0).2 = (ts.getD i te0).xs) ∧ GTs w' w.heap.size b w'.heap.size gs) ∧ Below w.heap.size w w' := by
  have hmk := mkTes w len hl
  have hr0 := CS.madeTe w len 32
  have hb0 : Below w.heap.size w (w.alloc (.cells (madeCells #[.slice none 0 0] (len * 1)) 32)) := (Below.refl _ w).alloc (Nat.le_refl _) _
  generalize w.alloc (.cells (madeCells #[.slice none 0 0] (len * 1)) 32) = w0 at *
  replace hd2 := hd hd2
  have hlm : len ≤ maxLen := by unfold maxLen; omega
  go_enter Try.func12, Try.ntmps12
  go_wp2
  go_loopw [4] (fun a wr => ∃ (i : Nat) (gs : List (Nat × List Tn)), i ≤ len ∧ a = .int .i64 i ∧ gs.length = i ∧ CS wr w.heap.size (gs.map tgV ++ List.replicate (len - i) (.slice none 0 0)) ∧ Hid ((∀ j, j < i → (gs.getD j tg0).2 = (ts.getD j te0).xs) ∧ (∀ j, j < i → (w.heap.size < (gs.getD j tg0).1 ∧ (gs.getD j tg0).1 < wr.heap.size) ∧ RowN wr (gs.getD j tg0).1 (gs.getD j tg0).2 ∧ TnFits (gs.getD j tg0).2 ∧ (gs.getD j tg0).2.length ≤ maxLen) ∧ (∀ j k, j < k → k < i → (gs.getD j tg0).1 < (gs.getD k tg0).1)) ∧ Below w.heap.size w wr) (fun b _ => len - (intOf b).toNat)
  case atStart => exact ⟨0, [], by omega, rfl, rfl, by simpa using hr0, ⟨fun j h => by omega, fun j h => by omega, fun j k h1 h2 => by omega⟩, hb0⟩
  case round =>
    obtain ⟨i, gs, hk, rfl, hgl, hC, hI, hb⟩ := hrel
    by_cases hlt : i < len
    · obtain ⟨bl, off, t, rfl, hbl, hx, hf, c0⟩ := (hR.old hb).at hlt
      have hd3 := hd2.out i hlt
      rw [hx] at hd3
      have TF := hd (lToTerm t.a t.xs.length t.c t.xs wr hf hd3)
      have hfit := hd hf.2.2.2.1
      have hfl := hd (Nat.le_trans hf.2.1 hf.2.2.1)
      replace hx := hd hx
      have hlq := hC.lt
      clear hf
      go_wp2_with fail
      refine TF.out.mono ?_
      rintro e w1 ⟨⟨bn, rfl, hbn, hrow⟩, hb1⟩
      have hC1 := hC.later hb1
      have hlen1 : i < (gs.map tgV ++ List.replicate (len - i) (Value.slice none 0 0)).length := by simp; omega
      have d0 := hC1.cell i _ (List.getElem?_eq_getElem hlen1)
      have f0 := hC1.froz i hlen1
      generalize (gs.map tgV ++ List.replicate (len - i) (Value.slice none 0 0))[i]'_ = u0 at d0
      have hC2 := hC1.stored (i := i) (tgV (bn, t.xs)) hlen1
      have hset : (gs.map tgV ++ List.replicate (len - i) (Value.slice none 0 0)).set i (tgV (bn, t.xs)) = (gs ++ [(bn, t.xs)]).map tgV ++ List.replicate (len - (i + 1)) (Value.slice none 0 0) := by
        have := set_next (gs.map tgV) (len - (i + 1)) (.slice none 0 0) (tgV (bn, t.xs))
        rw [List.length_map, hgl, show len - (i + 1) + 1 = len - i by omega] at this
        rw [this]; simp
      rw [hset] at hC2
      replace hC2 := hd hC2
      have hrow2 := hrow.other w.heap.size i (by omega) (tgV (bn, t.xs))
      have hz2 : (w1.setCell ⟨w.heap.size, i, none⟩ (tgV (bn, t.xs))).heap.size = w1.heap.size := by simp [World.setCell]
      have hlt2 := hrow.1
      have hI2 : Hid ((∀ j, j < i + 1 → ((gs ++ [(bn, t.xs)]).getD j tg0).2 = (ts.getD j te0).xs) ∧ (∀ j, j < i + 1 → (w.heap.size < ((gs ++ [(bn, t.xs)]).getD j tg0).1 ∧ ((gs ++ [(bn, t.xs)]).getD j tg0).1 < (w1.setCell ⟨w.heap.size, i, none⟩ (tgV (bn, t.xs))).heap.size) ∧ RowN (w1.setCell ⟨w.heap.size, i, none⟩ (tgV (bn, t.xs))) ((gs ++ [(bn, t.xs)]).getD j tg0).1 ((gs ++ [(bn, t.xs)]).getD j tg0).2 ∧ TnFits ((gs ++ [(bn, t.xs)]).getD j tg0).2 ∧ ((gs ++ [(bn, t.xs)]).getD j tg0).2.length ≤ maxLen) ∧ (∀ j k, j < k → k < i + 1 → ((gs ++ [(bn, t.xs)]).getD j tg0).1 < ((gs ++ [(bn, t.xs)]).getD k tg0).1)) := by
        obtain ⟨p1, p2, p3⟩ := hI.out
        refine ⟨fun j hj => ?_, fun j hj => ?_, fun j k hj hk => ?_⟩
        · rw [snoc_getD, hgl]
          by_cases e : j < i
          · rw [if_pos e]; exact p1 j e
          · obtain rfl : j = i := by omega
            rw [if_neg e, if_pos rfl, hx.out]
        · rw [snoc_getD, hgl, hz2]
          by_cases e : j < i
          · rw [if_pos e]
            obtain ⟨q1, q2, q3⟩ := p2 j e
            exact ⟨⟨q1.1, Nat.lt_of_lt_of_le q1.2 hb1.size⟩, (q2.old hb1).other w.heap.size i (by omega) _, q3⟩
          · obtain rfl : j = i := by omega
            rw [if_neg e, if_pos rfl]
            exact ⟨⟨by dsimp only; omega, hlt2⟩, hrow2, hfit.out, hfl.out⟩
        · rw [snoc_getD, snoc_getD, hgl]
          by_cases e : k < i
          · rw [if_pos e, if_pos (by omega)]; exact p3 j k hj e
          · obtain rfl : k = i := by omega
            rw [if_pos hj, if_neg (by omega), if_pos rfl]
            have := (p2 j hj).1
            dsimp only
            omega
      clear hI hrow hrow2 hset hC hC1 hlen1 hfit hfl hx
      go_wp2
      go_roundw
      case rel => exact ⟨i + 1, gs ++ [(bn, t.xs)], by omega, by go_num, by simp; omega, hC2.out, hI2.out, (hb.trans (hb1.mono hb.size)).setCell (p := ⟨w.heap.size, i, none⟩) (Nat.le_refl _) _⟩
      case measure => simp [intOf]; omega
    · obtain rfl : i = len := by omega
      have hlt := hC.lt
      obtain ⟨p1, p2, p3⟩ := hI.out
      rw [Nat.sub_self, List.replicate_zero, List.append_nil] at hC
      clear hI
      replace p1 := hd p1
      have GG : Hid (GTs wr w.heap.size w.heap.size wr.heap.size gs) := ⟨Nat.le_refl _, hC, fun j hj => p2 j (by omega), fun j k h1 h2 => p3 j k h1 (by omega), by omega, hlt, Nat.le_refl _⟩
      clear p2 p3 hC
      go_wp2
      go_ret
      exact ⟨⟨_, gs, rfl, hgl, p1.out, GG.out⟩, hb⟩
set_option maxHeartbeats 2000000 in
theorem lEqTs (a a' : Option Addr) (len cap cap' : Nat) (ts us : List Te) (w : World) (hR : InTs w a len cap ts) (hR' : InTs w a' len cap' us) (hs : ∀ i, i < len → (ts.getD i te0).xs = (us.getD i te0).xs) :
    Calls Try.prog 16 #[.slice a len cap, .slice a' len cap'] w fun e w' => e = .returned (.bool true) ∧ Below w.heap.size w w' := by
  have hlen : len ≤ maxLen := Nat.le_trans hR.2.1 hR.2.2.1
  unfold maxLen at hlen
  replace hs := hd hs
  go_enter Try.func16, Try.ntmps16
  go_wp2
  go_loopw [5] (fun a wr => ∃ i : Nat, i ≤ len ∧ a = .int .i64 i ∧ Below w.heap.size w wr) (fun b _ => len - (intOf b).toNat)
  case atStart => exact ⟨0, by omega, rfl, (by repeat (first | exact Below.refl _ _ | refine Below.drew ?_ | refine old_alloc ?_ _ | refine old_trans ?_ (by assumption)))⟩
  case round =>
    obtain ⟨i, hk, rfl, hb⟩ := hrel
    by_cases hlt : i < len
    · obtain ⟨bl, off, f, rfl, hbl, hx, hf, c0⟩ := (hR.old hb).at hlt
      obtain ⟨bl', off', g, rfl, hbl', hx', hg, d0⟩ := (hR'.old hb).at hlt
      have sm := hs.out i hlt
      rw [hx, hx'] at sm
      have E := hd (fun W (h : Below wr.heap.size wr W) => lEqTerm f.a g.a g.xs.length f.c g.c g.xs W (by have := hf.old h; rw [sm] at this; exact this) (hg.old h))
      rw [sm] at c0
      have hc : Below wr.heap.size wr wr := Below.refl _ _
      clear hx hx' hf hg sm
      go_wp2_with fail
      go_region_held3 (fun w' => w'.cell? ⟨bl, off + i, none⟩ = some (.slice f.a g.xs.length f.c) ∧ w'.cell? ⟨bl', off' + i, none⟩ = some (.slice g.a g.xs.length g.c)) (go_keep) (first | (go_at_call 14; refine (E.out _ (by with_reducible first | exact hc | exact Below.drew hc)).mono ?_; rintro e w1 ⟨rfl, hb1⟩; have p0 := (hb1.cell (World.block_lt_of_cell? _ _ c0)).trans c0; have p1 := (hb1.cell (World.block_lt_of_cell? _ _ d0)).trans d0))
      all_goals
        have hB : Below w.heap.size w w1 := hb.drew.trans (hb1.mono hb.size)
        go_wp2
        go_roundw
        case rel => exact ⟨i + 1, by omega, by go_num, hB⟩
        case measure => simp [intOf]; omega
    · obtain rfl : i = len := by omega
      go_wp2
      go_ret
      exact ⟨rfl, hb⟩
set_option maxHeartbeats 4000000 in
/-- marked: nothing is written but the blocks of the nodes -/
theorem lMarkTs (base b top : Nat) (gs : List (Nat × List Tn)) (k : Int) (w : World) (h : GTs w base b top gs) (hl : gs.length ≤ 1048576) (hs : sumU (gs.map tgE) gs.length ≤ 1048576) (k0 : 0 ≤ k) (k1 : k ≤ 8388608) :
    Calls Try.prog 19 #[.slice (some ⟨b, 0, none⟩) gs.length gs.length, .int .i64 k] w fun e w' => (e = .returned (.int .i64 (k + 3 * (sumU (gs.map tgE) gs.length : Nat)))) ∧ Out (fun x => b < x ∧ x < top) w w' := by
  have hsb : Hid (∀ j, j ≤ gs.length → sumU (gs.map tgE) j ≤ 1048576) := fun j hj => Nat.le_trans (sumU_mono _ hj) hs
  go_enter Try.func19, Try.ntmps19
  go_wp2
  go_loopw [1, 5] (fun s i wr => ∃ j : Nat, j ≤ gs.length ∧ s = .int .i64 (k + 3 * (sumU (gs.map tgE) j : Nat)) ∧ i = .int .i64 (j : Int) ∧ CS wr b (gs.map tgV) ∧ Hid (∀ i, i < gs.length → AnyC wr (gs.getD i tg0).1 (gs.getD i tg0).2.length) ∧ Out (fun x => b < x ∧ x < top) w wr) (fun _ i _ => gs.length - (intOf i).toNat)
  case atStart => exact ⟨0, by omega, by show _ = Value.int _ (k + 3 * ((0 : Nat) : Int)); simp, rfl, h.cs, fun i hi => (h.row i hi).2.1.anyC, Out.refl _ _⟩
  case round =>
    obtain ⟨j, hj, rfl, rfl, hC, hA, hO⟩ := hrel
    by_cases hlt : j < gs.length
    · have hc := hC.cell j (tgV (gs.getD j tg0)) (by simp [List.getD_eq_getElem?_getD, hlt])
      have hrj := h.row j hlt
      have haj := hA.out j hlt
      have q1 := hsb.out j (by omega)
      have q2 := hsb.out (j + 1) (by omega)
      have eS : sumU (gs.map tgE) (j + 1) = sumU (gs.map tgE) j + (gs.getD j tg0).2.length := by
        show _ + _ = _
        rw [map_getD hlt]; rfl
      have hne : Hid (∀ i, i < gs.length → i ≠ j → (gs.getD i tg0).1 ≠ (gs.getD j tg0).1) := fun i hi e h2 => by
        rcases Nat.lt_or_gt_of_ne e with g | g
        · have := h.up i j g hlt; omega
        · have := h.up j i g hi; omega
      have hb1 : b < (gs.getD j tg0).1 ∧ (gs.getD j tg0).1 < top := hrj.1
      rw [eS] at q2
      replace eS := hd eS
      unfold tgV at hc
      generalize hg : (gs.getD j tg0).1 = g at *
      generalize hn : (gs.getD j tg0).2.length = n at *
      generalize hS : sumU (gs.map tgE) j = S at *
      have hji : (j : Int) < (gs.length : Int) := by omega
      obtain ⟨q, hq⟩ : ∃ q : Int, k + 3 * (S : Int) = q := ⟨_, rfl⟩
      have hqb : 0 ≤ q ∧ q ≤ 16777216 := by omega
      rw [hq]
      have hq' := hd hq
      clear hq
      have MN := hd (lMarkNodes g n n q wr haj (by omega) hqb.1 hqb.2)
      replace hg := hd hg
      replace hn := hd hn
      clear haj hrj hS
      go_wp2_with fail
      refine MN.out.mono ?_
      rintro e w2 ⟨rfl, hr2, hg2⟩
      have hA2 : Hid (∀ i, i < gs.length → AnyC w2 (gs.getD i tg0).1 (gs.getD i tg0).2.length) := fun i hi => by
        by_cases e : i = j
        · subst e; rw [hg.out, hn.out]; exact hr2
        · exact (hA.out i hi).kept hg2 (fun e2 => by injection e2 with e2; exact hne.out i hi e e2)
      have hC2 := hC.keptTn hg2 (fun e => by injection e with e; omega)
      have hO2 : Out (fun x => b < x ∧ x < top) w w2 := hO.trans (C' := fun x => x = g) ⟨hg2.os, hg2.tape, hg2.output, hg2.size, fun i hi hn => hg2.block i hi (fun e => hn (by injection e))⟩ (fun i e => by subst e; exact .inl hb1)
      clear hA hC hO MN hr2
      go_wp2
      go_roundw
      case rel => exact ⟨j + 1, by omega, by rw [eS.out]; have := hq'.out; congr 1; omega, by go_num, hC2, hA2.out, hO2⟩
      case measure => simp [intOf]; omega
    · obtain rfl : j = gs.length := by omega
      go_wp2
      go_ret
      exact ⟨rfl, hO⟩
end Go.Proofs.Ytcdhmimbnnicnaa

/- Names for terms: which text of a list comes first, what a term is when terms are put in the places of names; the specification's l12Find. No condition. -/
namespace Go.Proofs.Ytcdhmimbnnicnaa
open Go.RowKit
set_option linter.unusedVariables false
set_option maxRecDepth 100000

theorem bytes_inj {x s : ByteArray} (h : x.toList = s.toList) : x = s := by
  rw [ByteArray.toList_eq, ByteArray.toList_eq] at h
  cases x; cases s
  simp only at h
  exact congrArg _ (Array.toList_inj.1 h)
/-- the place of the first one, or the length -/
def fnd : List ByteArray → ByteArray → Nat
  | [], _ => 0
  | x :: xs, s => if x = s then 0 else fnd xs s + 1
theorem fnd_hit : ∀ {names : List ByteArray} {s : ByteArray} {j : Nat}, (∀ q, q < j → names.getD q ⟨#[]⟩ ≠ s) → j < names.length → names.getD j ⟨#[]⟩ = s → fnd names s = j
  | [], s, j, _, h, _ => by simp at h
  | x :: xs, s, 0, _, _, h => by simp at h; subst h; simp [fnd]
  | x :: xs, s, j + 1, h0, h1, h2 => by
    have n0 : x ≠ s := by have := h0 0 (by omega); simpa using this
    have ih := fnd_hit (names := xs) (s := s) (j := j) (fun q hq => by have := h0 (q + 1) (by omega); simpa using this) (by simpa using h1) (by simpa using h2)
    unfold fnd
    rw [if_neg n0, ih]
theorem fnd_miss : ∀ {names : List ByteArray} {s : ByteArray}, (∀ q, q < names.length → names.getD q ⟨#[]⟩ ≠ s) → fnd names s = names.length
  | [], s, _ => rfl
  | x :: xs, s, h0 => by
    have n0 : x ≠ s := by have := h0 0 (by simp); simpa using this
    have ih := fnd_miss (names := xs) (s := s) (fun q hq => by have := h0 (q + 1) (by simp; omega); simpa using this)
    unfold fnd
    rw [if_neg n0, ih, List.length_cons]
def fndI (names : List ByteArray) (s : ByteArray) : Int := if fnd names s < names.length then (fnd names s : Int) else -1
theorem fndI_hit {names : List ByteArray} {s : ByteArray} {j : Nat} (h0 : ∀ q, q < j → names.getD q ⟨#[]⟩ ≠ s) (h1 : j < names.length) (h2 : names.getD j ⟨#[]⟩ = s) : fndI names s = j := by
  have e := fnd_hit h0 h1 h2
  unfold fndI
  rw [e, if_pos h1]
theorem fndI_miss {names : List ByteArray} {s : ByteArray} (h0 : ∀ q, q < names.length → names.getD q ⟨#[]⟩ ≠ s) : fndI names s = -1 := by
  have e := fnd_miss h0
  unfold fndI
  rw [e, if_neg (Nat.lt_irrefl _)]
/-- what stands for a node -/
def putN (names : List ByteArray) (zs : List (List Tn)) (x : Tn) : List Tn := if x.k = 2 ∧ fnd names x.s < names.length then zs.getD (fnd names x.s) [] else [x]
def putL (names : List ByteArray) (zs : List (List Tn)) (xs : List Tn) : List Tn := xs.flatMap (putN names zs)
def tpB (names : List ByteArray) (zs : List (List Tn)) (xs : List Tn) : Bool := okT xs && (decide (names.length = zs.length) && (decide (names.length ≤ 100) && (zs.all okT && decide ((putL names zs xs).length ≤ 100))))
def tpL (names : List ByteArray) (zs : List (List Tn)) (xs : List Tn) : List Tn := if tpB names zs xs then putL names zs xs else []
theorem tp_no {names : List ByteArray} {zs : List (List Tn)} {xs : List Tn} (h : tpB names zs xs = false) : tpL names zs xs = [] := by unfold tpL; rw [h]; rfl
theorem tp_yes {names : List ByteArray} {zs : List (List Tn)} {xs : List Tn} (h : tpB names zs xs = true) : tpL names zs xs = putL names zs xs := by unfold tpL; rw [h]; rfl
theorem tp_n1 {names : List ByteArray} {zs : List (List Tn)} {xs : List Tn} (h : okT xs = false) : tpB names zs xs = false := by unfold tpB; rw [h]; rfl
theorem tp_n2 {names : List ByteArray} {zs : List (List Tn)} {xs : List Tn} (h : names.length ≠ zs.length) : tpB names zs xs = false := by unfold tpB; simp [h]
theorem tp_n3 {names : List ByteArray} {zs : List (List Tn)} {xs : List Tn} (h : ¬ names.length ≤ 100) : tpB names zs xs = false := by unfold tpB; simp [h]
theorem tp_n4 {names : List ByteArray} {zs : List (List Tn)} {xs : List Tn} {i : Nat} (h : i < zs.length) (h2 : okT (zs.getD i []) = false) : tpB names zs xs = false := by
  have : zs.all okT = false := by
    rw [List.all_eq_false]
    refine ⟨zs.getD i [], ?_, by rw [h2]; simp⟩
    have e : zs.getD i [] = zs[i] := by simp [List.getD_eq_getElem?_getD, h]
    rw [e]; exact List.getElem_mem _
  unfold tpB; rw [this]; simp
theorem tp_n5 {names : List ByteArray} {zs : List (List Tn)} {xs : List Tn} (h : ¬ (putL names zs xs).length ≤ 100) : tpB names zs xs = false := by unfold tpB; simp [h]
theorem tp_y {names : List ByteArray} {zs : List (List Tn)} {xs : List Tn} (h1 : okT xs = true) (h2 : names.length = zs.length) (h3 : names.length ≤ 100) (h4 : ∀ i, i < zs.length → okT (zs.getD i []) = true) (h5 : (putL names zs xs).length ≤ 100) : tpB names zs xs = true := by
  have : zs.all okT = true := by
    rw [List.all_eq_true]
    intro z hz
    obtain ⟨i, hi, rfl⟩ := List.mem_iff_getElem.1 hz
    have := h4 i hi
    simpa [List.getD_eq_getElem?_getD, hi] using this
  unfold tpB; rw [h1, this, decide_eq_true h2, decide_eq_true h3, decide_eq_true h5]; rfl
theorem take_next {xs : List Tn} {i : Nat} (h : i < xs.length) : xs.take (i + 1) = xs.take i ++ [xs.getD i tn0] := by
  rw [List.take_add_one, List.getD_eq_getElem?_getD, List.getElem?_eq_getElem h]; rfl
theorem putL_next {names : List ByteArray} {zs : List (List Tn)} {xs : List Tn} {i : Nat} (h : i < xs.length) : putL names zs (xs.take (i + 1)) = putL names zs (xs.take i) ++ putN names zs (xs.getD i tn0) := by
  unfold putL; rw [take_next h, List.flatMap_append]; simp
theorem putL_len {names : List ByteArray} {zs : List (List Tn)} {xs : List Tn} (i : Nat) : (putL names zs (xs.take i)).length ≤ (putL names zs xs).length := by
  have e : putL names zs xs = putL names zs (xs.take i) ++ putL names zs (xs.drop i) := by
    unfold putL; rw [← List.flatMap_append, List.take_append_drop]
  rw [e, List.length_append]; omega
theorem putL_all {names : List ByteArray} {zs : List (List Tn)} {xs : List Tn} : putL names zs (xs.take xs.length) = putL names zs xs := by rw [List.take_length]
theorem putN_hit {names : List ByteArray} {zs : List (List Tn)} {x : Tn} (h : x.k = 2) (h2 : 0 ≤ fndI names x.s) : putN names zs x = zs.getD (fndI names x.s).toNat [] := by
  unfold fndI at h2 ⊢
  split at h2
  · rename_i g
    rw [if_pos g]
    unfold putN
    rw [if_pos ⟨h, g⟩]
    rfl
  · omega
theorem putN_miss {names : List ByteArray} {zs : List (List Tn)} {x : Tn} (h : ¬ (x.k = 2 ∧ 0 ≤ fndI names x.s)) : putN names zs x = [x] := by
  unfold putN
  rw [if_neg]
  rintro ⟨h1, h2⟩
  refine h ⟨h1, ?_⟩
  unfold fndI
  rw [if_pos h2]
  omega
theorem fndI_lt {names : List ByteArray} {s : ByteArray} (h : 0 ≤ fndI names s) : (fndI names s).toNat < names.length := by
  unfold fndI at h ⊢
  split at h
  · rename_i g; rw [if_pos g]; simpa using g
  · omega
theorem putN_fits {names : List ByteArray} {zs : List (List Tn)} {x : Tn} (hx : x.fit) (hz : ∀ z ∈ zs, TnFits z) : TnFits (putN names zs x) := by
  unfold putN
  split
  · intro y hy
    by_cases h : fnd names x.s < zs.length
    · have e : zs.getD (fnd names x.s) [] = zs[fnd names x.s] := by simp [List.getD_eq_getElem?_getD, h]
      rw [e] at hy
      exact hz _ (List.getElem_mem _) y hy
    · rw [List.getD_eq_getElem?_getD, List.getElem?_eq_none (by omega)] at hy
      simp at hy
  · exact TnFits.one hx
theorem putL_fits {names : List ByteArray} {zs : List (List Tn)} {xs : List Tn} (hx : TnFits xs) (hz : ∀ z ∈ zs, TnFits z) : TnFits (putL names zs xs) := by
  intro y hy
  obtain ⟨x, h1, h2⟩ := List.mem_flatMap.1 hy
  exact putN_fits (hx x h1) hz y h2
theorem InT.text {w : World} {a : Option Addr} {len cap : Nat} {xs : List ByteArray} (h : InT w a len cap xs) : len ≤ 9223372036854775807 := h.len
set_option maxHeartbeats 2000000 in
theorem sFind (a : Option Addr) (len cap : Nat) (names : List ByteArray) (s : ByteArray) (w : World) (hR : InT w a len cap names) :
    Calls Try.prog 39 #[.slice a len cap, .string s] w fun e w' => e = .returned (.int .i64 (fndI names s)) ∧ Below w.heap.size w w' := by
  have hlen := hR.len
  have hp := hR.1
  have miss := hd (fndI_miss (names := names) (s := s))
  have hit := hd (fun j => fndI_hit (names := names) (s := s) (j := j))
  generalize fndI names s = r at *
  go_enter Try.func39, Try.ntmps39
  go_wp2
  go_loopw [5] (fun i wr => ∃ j : Nat, j ≤ len ∧ i = .int .i64 j ∧ Hid (∀ q, q < j → names.getD q ⟨#[]⟩ ≠ s) ∧ Below w.heap.size w wr) (fun b _ => len - (intOf b).toNat)
  case atStart => exact ⟨0, by omega, rfl, fun q h => by omega, (by repeat (first | exact Below.refl _ _ | refine Below.drew ?_ | refine old_alloc ?_ _ | refine old_trans ?_ (by assumption)))⟩
  case round =>
    obtain ⟨j, hk, rfl, hne, hb⟩ := hrel
    by_cases hlt : j < len
    · obtain ⟨b, off, x, rfl, hbl, hx, -, c0⟩ := (hR.old hb).at hlt
      by_cases e : x = s
      · have er := hd (hit.out j hne.out (by omega) (by rw [hx, e]))
        clear hx hne miss hit
        subst e
        go_wp2
        go_ret
        exact ⟨by rw [er.out]; rfl, hb⟩
      · have ne : Hid (∀ q, q < j + 1 → names.getD q ⟨#[]⟩ ≠ s) := fun q hq => by
          by_cases e2 : q = j
          · rw [e2, hx]; exact e
          · exact hne.out q (by omega)
        have e3 : (x.toList == s.toList) = false := beq_eq_false_iff_ne.2 (fun h => e (bytes_inj h))
        clear hx hne miss hit
        go_wp2
        all_goals go_roundw
        case rel => exact ⟨j + 1, by omega, by go_num, ne.out, hb⟩
        case measure => simp [intOf]; omega
    · obtain rfl : j = len := by omega
      have er := hd (miss.out (fun q hq => hne.out q (by omega)))
      clear hne miss hit
      go_wp2
      go_ret
      exact ⟨by rw [er.out]; rfl, hb⟩
end Go.Proofs.Ytcdhmimbnnicnaa
