/- Lists of terms in memory: where they lie, how a law opens them; lists of one's own; blocks that are left alone. No condition. -/
import Derived.Test.YtmpckbgelkfgpaaPK19
import Derived.Test.YtmpckbgelkfgpaaPK20
import Derived.Test.YtmpckbgelkfgpaaPK02
import Derived.Test.YtmpckbgelkfgpaaPK21
import Derived.Deep.RegionHeld3
import Derived.Test.YtmpckbgelkfgpaaPK11
namespace Go.Proofs.Ytmpckbgelkfgpaa
open Go.ChangeShapes Go.WideShapes Go.ChangeAt Go.RowKit
set_option linter.unusedVariables false
set_option maxRecDepth 100000

structure Te where
  a : Option Addr
  c : Nat
  xs : List Tn
def te0 : Te := ⟨none, 0, []⟩
def TeIn (w : World) (t : Te) : Prop := InN w t.a t.xs.length t.c t.xs
def teV (t : Te) : Value := .slice t.a t.xs.length t.c
def InTs (w : World) (a : Option Addr) (len cap : Nat) (ts : List Te) : Prop :=
  ts.length = len ∧ len ≤ cap ∧ cap ≤ maxLen ∧ (∀ t ∈ ts, TeIn w t) ∧
  (len = 0 ∨ ∃ b off : Nat, a = some ⟨b, off, none⟩ ∧ b < w.heap.size ∧ ∀ i, i < len → w.cell? ⟨b, off + i, none⟩ = some (teV (ts.getD i te0)))
theorem InTs.old {w w' : World} {a : Option Addr} {len cap : Nat} {ts : List Te} (h : InTs w a len cap ts) (b : Below w.heap.size w w') : InTs w' a len cap ts := by
  obtain ⟨h1, h2, h3, h4, h5⟩ := h
  refine ⟨h1, h2, h3, fun t ht => (h4 t ht).old b, ?_⟩
  rcases h5 with h5 | ⟨bb, off, q1, q2, q3⟩
  · exact .inl h5
  · exact .inr ⟨bb, off, q1, Nat.lt_of_lt_of_le q2 b.size, fun i hi => (b.cell (p := ⟨bb, off + i, none⟩) q2).trans (q3 i hi)⟩
theorem InTs.al {w : World} {a : Option Addr} {len cap : Nat} {ts : List Te} (h : InTs w a len cap ts) (o : Obj) : InTs (w.alloc o) a len cap ts := h.old ((Below.refl _ _).alloc (Nat.le_refl _) o)
theorem InTs.dr {w : World} {a : Option Addr} {len cap : Nat} {ts : List Te} (h : InTs w a len cap ts) : InTs w.drew a len cap ts := h.old (Below.drew (Below.refl _ _))
theorem getD_memTe {ts : List Te} {k : Nat} (hk : k < ts.length) : ts.getD k te0 ∈ ts := by
  have e2 : ts.getD k te0 = ts[k]'hk := by rw [List.getD_eq_getElem?_getD, List.getElem?_eq_getElem hk]; rfl
  rw [e2]
  exact List.getElem_mem _
theorem InTs.at {w : World} {a : Option Addr} {len cap : Nat} {ts : List Te} (h : InTs w a len cap ts) {i : Nat} (hi : i < len) : ∃ (bl off : Nat) (t : Te), a = some ⟨bl, off, none⟩ ∧ bl < w.heap.size ∧ ts.getD i te0 = t ∧ TeIn w t ∧ w.cell? ⟨bl, off + i, none⟩ = some (.slice t.a t.xs.length t.c) := by
  rcases h.2.2.2.2 with h0 | ⟨b, off, e, hb, hc⟩
  · omega
  · have hl := h.1
    exact ⟨b, off, _, e, hb, rfl, h.2.2.2.1 _ (getD_memTe (by omega)), hc i hi⟩
section
variable {H : Type} {enc : TypeId × Value → H} {w : World} {base : Nat}
end
/-- a list of terms of one's own: the block of each one's nodes -/
def tg0 : Nat × List Tn := (0, [])
def tgE (g : Nat × List Tn) : Te := ⟨some ⟨g.1, 0, none⟩, g.2.length, g.2⟩
def tgV (g : Nat × List Tn) : Value := .slice (some ⟨g.1, 0, none⟩) g.2.length g.2.length
structure GTs (w : World) (base b top : Nat) (gs : List (Nat × List Tn)) : Prop where
  ge : base ≤ b
  cs : CS w b (gs.map tgV)
  row : ∀ i, i < gs.length → (b < (gs.getD i tg0).1 ∧ (gs.getD i tg0).1 < top) ∧ RowN w (gs.getD i tg0).1 (gs.getD i tg0).2 ∧ TnFits (gs.getD i tg0).2 ∧ (gs.getD i tg0).2.length ≤ maxLen
  up : ∀ i j, i < j → j < gs.length → (gs.getD i tg0).1 < (gs.getD j tg0).1
  len : gs.length ≤ maxLen
  hi : b < top ∧ top ≤ w.heap.size
theorem GTs.later {w w' : World} {base b top : Nat} {gs : List (Nat × List Tn)} (h : GTs w base b top gs) (k : Below w.heap.size w w') : GTs w' base b top gs :=
  ⟨h.ge, h.cs.later k, fun i hi => ⟨(h.row i hi).1, (h.row i hi).2.1.old k, (h.row i hi).2.2⟩, h.up, h.len, h.hi.1, Nat.le_trans h.hi.2 k.size⟩
theorem GTs.alloc {w : World} {base b top : Nat} {gs : List (Nat × List Tn)} (h : GTs w base b top gs) (o : Obj) : GTs (w.alloc o) base b top gs := h.later ((Below.refl _ _).alloc (Nat.le_refl _) o)
theorem GTs.drew {w : World} {base b top : Nat} {gs : List (Nat × List Tn)} (h : GTs w base b top gs) : GTs w.drew base b top gs := h.later (Below.refl _ _).drew
theorem GTs.kept {w w' : World} {base b top : Nat} {gs : List (Nat × List Tn)} {row : Option Nat} (h : GTs w base b top gs) (g : w.grownBy w' row) (hne : ∀ r, row = some r → r < b ∨ top ≤ r) : GTs w' base b top gs := by
  have far : ∀ x, b ≤ x → x < top → some x ≠ row := fun x h1 h2 e => by have := hne x e.symm; omega
  exact ⟨h.ge, h.cs.keptTn g (far _ (Nat.le_refl _) h.hi.1), fun i hi => ⟨(h.row i hi).1, (h.row i hi).2.1.kept g (far _ (by have := (h.row i hi).1; omega) (h.row i hi).1.2), (h.row i hi).2.2⟩, h.up, h.len, h.hi.1, Nat.le_trans h.hi.2 g.size⟩
theorem map_getD {gs : List (Nat × List Tn)} {i : Nat} (hi : i < gs.length) : (gs.map tgE).getD i te0 = tgE (gs.getD i tg0) := by
  simp [List.getD_eq_getElem?_getD, hi]
theorem GTs.inTs {w : World} {base b top : Nat} {gs : List (Nat × List Tn)} (h : GTs w base b top gs) : InTs w (some ⟨b, 0, none⟩) gs.length gs.length (gs.map tgE) := by
  refine ⟨by simp, Nat.le_refl _, h.len, fun t ht => ?_, .inr ⟨b, 0, rfl, h.cs.lt, fun i hi => ?_⟩⟩
  · obtain ⟨g, hg, rfl⟩ := List.mem_map.1 ht
    obtain ⟨i, hi, rfl⟩ := List.mem_iff_getElem.1 hg
    have q := h.row i hi
    have eg : gs.getD i tg0 = gs[i] := by simp [List.getD_eq_getElem?_getD, hi]
    rw [eg] at q
    exact q.2.1.inN q.2.2.1 (Nat.le_refl _) q.2.2.2
  · rw [map_getD hi, Nat.zero_add]
    refine h.cs.cell i _ ?_
    simp [List.getD_eq_getElem?_getD, hi, tgV, teV, tgE]
/-- what lies in blocks that were left alone -/
theorem RowN.same {w w' : World} {b : Nat} {xs : List Tn} (h : RowN w b xs) (e : w'.heap[b]? = w.heap[b]?) (hs : w.heap.size ≤ w'.heap.size) : RowN w' b xs := by
  refine ⟨Nat.lt_of_lt_of_le h.1 hs, fun i hi => ?_⟩
  obtain ⟨⟨h1, h2, h3⟩, f1, f2, f3⟩ := h.2 i hi
  exact ⟨⟨(World.cell?_of_block (a := ⟨b, i * 3, none⟩) e).trans h1, (World.cell?_of_block (a := ⟨b, i * 3 + 1, none⟩) e).trans h2, (World.cell?_of_block (a := ⟨b, i * 3 + 2, none⟩) e).trans h3⟩, (World.frozen?_of_block (a := ⟨b, i * 3, none⟩) e).trans f1, (World.frozen?_of_block (a := ⟨b, i * 3 + 1, none⟩) e).trans f2, (World.frozen?_of_block (a := ⟨b, i * 3 + 2, none⟩) e).trans f3⟩
theorem OTn.out {w w' : World} {C : Nat → Prop} {base cv : Nat} {av : Option Addr} {xs : List Tn} (h : OTn w base av cv xs) (k : Out C w w') (hn : ∀ q, av = some q → ¬ C q.block) : OTn w' base av cv xs := by
  obtain ⟨h1, h2, h3, h4 | ⟨g, h4, h5, h6⟩⟩ := h
  · exact ⟨h1, h2, h3, .inl h4⟩
  · exact ⟨h1, h2, h3, .inr ⟨g, h4, h5, h6.same (k.same _ h6.1 (hn _ h4)) k.size⟩⟩
theorem Cl1.out {w w' : World} {C : Nat → Prop} {b : Nat} {x : Value} (h : Cl1 w b x) (k : Out C w w') (hn : ¬ C b) : Cl1 w' b x := by
  have e := k.same b h.2.2 hn
  exact ⟨(World.cell?_of_block (a := ⟨b, 0, none⟩) e).trans h.1, (World.frozen?_of_block (a := ⟨b, 0, none⟩) e).trans h.2.1, Nat.lt_of_lt_of_le h.2.2 k.size⟩
theorem AnyC.kept {w w' : World} {b n : Nat} {row : Option Nat} (h : AnyC w b n) (g : w.grownBy w' row) (hne : some b ≠ row) : AnyC w' b n := by
  have e := g.block b h.1 hne
  refine ⟨Nat.lt_of_lt_of_le h.1 g.size, fun i hi => ?_⟩
  obtain ⟨⟨u, v, s, h1, h2, h3⟩, f1, f2, f3⟩ := h.2 i hi
  exact ⟨⟨u, v, s, (World.cell?_of_block (a := ⟨b, i * 3, none⟩) e).trans h1, (World.cell?_of_block (a := ⟨b, i * 3 + 1, none⟩) e).trans h2, (World.cell?_of_block (a := ⟨b, i * 3 + 2, none⟩) e).trans h3⟩, (World.frozen?_of_block (a := ⟨b, i * 3, none⟩) e).trans f1, (World.frozen?_of_block (a := ⟨b, i * 3 + 1, none⟩) e).trans f2, (World.frozen?_of_block (a := ⟨b, i * 3 + 2, none⟩) e).trans f3⟩
end Go.Proofs.Ytmpckbgelkfgpaa

/- Names for terms: which text of a list comes first, what a term is when terms are put in the places of names; the specification's l12Find. No condition. -/
namespace Go.Proofs.Ytmpckbgelkfgpaa
open Go.RowKit
set_option linter.unusedVariables false
set_option maxRecDepth 100000

theorem bytes_inj {x s : ByteArray} (h : x.toList = s.toList) : x = s := by
  rw [ByteArray.toList_eq, ByteArray.toList_eq] at h
  cases x; cases s
  simp only at h
  exact congrArg _ (Array.toList_inj.1 h)
/-- the place of the first one, or the length -/
def fnd : List ByteArray → ByteArray → Nat
  | [], _ => 0
  | x :: xs, s => if x = s then 0 else fnd xs s + 1
theorem fnd_hit : ∀ {names : List ByteArray} {s : ByteArray} {j : Nat}, (∀ q, q < j → names.getD q ⟨#[]⟩ ≠ s) → j < names.length → names.getD j ⟨#[]⟩ = s → fnd names s = j
  | [], s, j, _, h, _ => by simp at h
  | x :: xs, s, 0, _, _, h => by simp at h; subst h; simp [fnd]
  | x :: xs, s, j + 1, h0, h1, h2 => by
    have n0 : x ≠ s := by have := h0 0 (by omega); simpa using this
    have ih := fnd_hit (names := xs) (s := s) (j := j) (fun q hq => by have := h0 (q + 1) (by omega); simpa using this) (by simpa using h1) (by simpa using h2)
    unfold fnd
    rw [if_neg n0, ih]
theorem fnd_miss : ∀ {names : List ByteArray} {s : ByteArray}, (∀ q, q < names.length → names.getD q ⟨#[]⟩ ≠ s) → fnd names s = names.length
  | [], s, _ => rfl
  | x :: xs, s, h0 => by
    have n0 : x ≠ s := by have := h0 0 (by simp); simpa using this
    have ih := fnd_miss (names := xs) (s := s) (fun q hq => by have := h0 (q + 1) (by simp; omega); simpa using this)
    unfold fnd
    rw [if_neg n0, ih, List.length_cons]
def fndI (names : List ByteArray) (s : ByteArray) : Int := if fnd names s < names.length then (fnd names s : Int) else -1
theorem fndI_hit {names : List ByteArray} {s : ByteArray} {j : Nat} (h0 : ∀ q, q < j → names.getD q ⟨#[]⟩ ≠ s) (h1 : j < names.length) (h2 : names.getD j ⟨#[]⟩ = s) : fndI names s = j := by
  have e := fnd_hit h0 h1 h2
  unfold fndI
  rw [e, if_pos h1]
theorem fndI_miss {names : List ByteArray} {s : ByteArray} (h0 : ∀ q, q < names.length → names.getD q ⟨#[]⟩ ≠ s) : fndI names s = -1 := by
  have e := fnd_miss h0
  unfold fndI
  rw [e, if_neg (Nat.lt_irrefl _)]
theorem InT.text {w : World} {a : Option Addr} {len cap : Nat} {xs : List ByteArray} (h : InT w a len cap xs) : len ≤ 9223372036854775807 := h.len
end Go.Proofs.Ytmpckbgelkfgpaa

/- Terms that a function makes, and lists of such that grow: what is kept of them while others write. No condition. -/
namespace Go.Proofs.Ytmpckbgelkfgpaa
open Go.RowKit
set_option linter.unusedVariables false
set_option maxRecDepth 100000

section
variable {w w' : World} {base base' : Nat} {v : Value} {e : TypeId} {size n : Nat} {xs : List Value}
theorem owns_sep (h : w.ownsRow base e size v n xs) {o : Option Nat} (hn : ∀ b, v.ownBlock = some b → some b ≠ o) : v.ownBlock = none ∨ v.ownBlock ≠ o := by
  cases hv : v.ownBlock with
  | none => exact .inl rfl
  | some k => exact .inr (hn k hv)
theorem owns_later (h : w.ownsRow base e size v n xs) (k : Below w.heap.size w w') : w'.ownsRow base e size v n xs :=
  World.ownsRow.kept h (grown_below k) (owns_sep h (fun b _ e => by cases e))
theorem owns_out {C : Nat → Prop} (h : w.ownsRow base e size v n xs) (k : Out C w w') (hn : ∀ b, v.ownBlock = some b → ¬ C b) : w'.ownsRow base e size v n xs := by
  refine ⟨h.1, ?_⟩
  rcases h.2 with h2 | ⟨g, cap, cur, rfl, hb, hg, rest⟩
  · exact .inl h2
  · exact .inr ⟨g, cap, cur, rfl, hb, (k.same g (Array.getElem?_eq_some_iff.1 hg).1 (hn g rfl)).trans hg, rest⟩
theorem owns_mono (h : w.ownsRow base e size v n xs) (hb : base' ≤ base) : w.ownsRow base' e size v n xs := by
  refine ⟨h.1, ?_⟩
  rcases h.2 with h2 | ⟨g, cap, cur, h3, h4, rest⟩
  · exact .inl h2
  · exact .inr ⟨g, cap, cur, h3, by omega, rest⟩
theorem owns_type (h : w.ownsRow base e size v n xs) {b : Nat} (hv : v.ownBlock = some b) : ∃ cur, w.heap[b]? = some (.cells cur e (0, 0)) := by
  rcases h.2 with ⟨rfl, -⟩ | ⟨g, cap, cur, rfl, -, hg, -⟩
  · cases hv
  · simp [Value.ownBlock] at hv
    subst hv
    exact ⟨_, hg⟩
/-- rows of two types lie apart -/
theorem owns_apart {e2 : TypeId} {size2 n2 : Nat} {v2 : Value} {xs2 : List Value} (h : w.ownsRow base e size v n xs) (k : w.ownsRow base' e2 size2 v2 n2 xs2) (hne : e ≠ e2) {b c : Nat} (hb : v.ownBlock = some b) (hc : v2.ownBlock = some c) : b ≠ c := fun q => by
  subst q
  obtain ⟨x, hx⟩ := owns_type h hb
  obtain ⟨y, hy⟩ := owns_type k hc
  rw [hx] at hy
  injection hy with hy
  injection hy with _ hy _
  exact hne hy
end
/-- a term in new memory, or nothing -/
def TT (w : World) (base : Nat) (t : Te) : Prop := t = te0 ∨ (t.xs ≠ [] ∧ TnFits t.xs ∧ TnGrows w base (teV t) t.xs)
/-- a list of terms that grows -/
def TeG (w : World) (base : Nat) (v : Value) (ts : List Te) : Prop := w.ownsRow base 49 1 v ts.length (ts.map teV)
section
variable {w w' : World} {base base' : Nat} {v : Value} {ts : List Te} {t : Te}
theorem TnGrows.oo {av : Option Addr} {cv : Nat} {xs : List Tn} (h : TnGrows w base (.slice av xs.length cv) xs) (f : TnFits xs) : OTn w base av cv xs := by
  obtain ⟨av', cv', e, h2⟩ := h.o f
  injection e with e1 e2 e3
  subst e1 e3
  exact h2
theorem TT.otn (h : TT w base t) : OTn w base t.a t.c t.xs := by
  rcases h with rfl | ⟨-, f, h⟩
  · exact OTn.none _ _
  · exact TnGrows.oo h f
theorem TT.teIn (h : TT w base t) : TeIn w t := h.otn.inn
theorem TT.old (h : TT w base t) (k : Below w.heap.size w w') : TT w' base t := h.imp id (fun g => ⟨g.1, g.2.1, g.2.2.later k⟩)
theorem TT.mono (h : TT w base t) (k : base' ≤ base) : TT w base' t := h.imp id (fun g => ⟨g.1, g.2.1, owns_mono g.2.2 k⟩)
theorem TT.out {C : Nat → Prop} (h : TT w base t) (k : Out C w w') (hn : ∀ b, (teV t).ownBlock = some b → ¬ C b) : TT w' base t := h.imp id (fun g => ⟨g.1, g.2.1, owns_out g.2.2 k hn⟩)
theorem TT.lt (h : TT w base t) : ∀ b, (teV t).ownBlock = some b → base ≤ b ∧ b < w.heap.size := by
  rcases h with rfl | ⟨-, -, h⟩
  · intro b e; cases e
  · exact World.ownsRow.lt h
theorem TeG.nil (w : World) (base : Nat) : TeG w base (.slice none 0 0) [] := World.ownsRow_nil w base _ _
theorem TeG.later (h : TeG w base v ts) (k : Below w.heap.size w w') : TeG w' base v ts := owns_later h k
theorem TeG.out {C : Nat → Prop} (h : TeG w base v ts) (k : Out C w w') (hn : ∀ b, v.ownBlock = some b → ¬ C b) : TeG w' base v ts := owns_out h k hn
theorem TeG.lt (h : TeG w base v ts) : ∀ b, v.ownBlock = some b → base ≤ b ∧ b < w.heap.size := World.ownsRow.lt h
theorem TT.grow (h : TT w base t) (g : TeG w base' v ts) (k : w.grownBy w' v.ownBlock) : TT w' base t := h.imp id (fun q => ⟨q.1, q.2.1, World.ownsRow.kept q.2.2 k (owns_sep q.2.2 (fun b hb e => owns_apart q.2.2 g (by decide) hb e.symm rfl))⟩)
theorem TeG.at (h : TeG w base v ts) {i : Nat} (hi : i < ts.length) : ∃ g cap, v = .slice (some ⟨g, 0, none⟩) ts.length cap ∧ g < w.heap.size ∧ base ≤ g ∧ w.cell? ⟨g, i, none⟩ = some (teV (ts.getD i te0)) := by
  have h' := h
  rcases h.2 with ⟨-, h0⟩ | ⟨g, cap, cur, rfl, hb, hg, -, -, -, -⟩
  · omega
  · refine ⟨g, cap, rfl, (Array.getElem?_eq_some_iff.1 hg).1, hb, ?_⟩
    refine (World.ownsRow.cellAt h' i (by omega)).trans ?_
    simp [List.getD_eq_getElem?_getD, hi]
theorem TeG.shape (h : TeG w base v ts) : ∃ av cv, v = .slice av ts.length cv := by
  rcases h.2 with ⟨h0, h1⟩ | ⟨g, cap, cur, rfl, hb, hg, h1, h2, -, -⟩
  · exact ⟨none, 0, by rw [h0, h1]⟩
  · exact ⟨_, _, rfl⟩
theorem TeG.inTs {av : Option Addr} {cv : Nat} (h : TeG w base (.slice av ts.length cv) ts) (ht : ∀ t ∈ ts, TeIn w t) : InTs w av ts.length cv ts := by
  have h' := h
  rcases h.2 with ⟨h0, h1⟩ | ⟨g, cap, cur, h0, hb, hg, h1, h2, -, -⟩
  · injection h0 with e1 e2 e3
    subst e1 e3
    exact ⟨rfl, by omega, Nat.zero_le _, ht, .inl h1⟩
  · injection h0 with e1 e2 e3
    subst e1 e3
    refine ⟨rfl, h1, h2, ht, .inr ⟨g, 0, rfl, (Array.getElem?_eq_some_iff.1 hg).1, fun i hi => ?_⟩⟩
    rw [Nat.zero_add]
    refine (World.ownsRow.cellAt h' i (by omega)).trans ?_
    simp [List.getD_eq_getElem?_getD, hi]
theorem map_snoc {x : Te} : (ts ++ [x]).map teV = ts.map teV ++ [teV x] := by simp
end
theorem infoTer : (Try.prog.info? 49).map (fun i => (i.zero, i.size, i.bytes)) = some (some (.agg #[.slice none 0 0]), 1, 24) := by kernel_rfl
/-- the parts, one behind the other -/
def flt (ts : List Te) : List Tn := (ts.map Te.xs).flatten
theorem flt_next {ts : List Te} {j : Nat} (h : j < ts.length) : flt (ts.take (j + 1)) = flt (ts.take j) ++ (ts.getD j te0).xs := by
  unfold flt
  have e : (ts.take (j + 1)).map Te.xs = (ts.take j).map Te.xs ++ [(ts.getD j te0).xs] := by
    rw [List.take_add_one, List.getElem?_eq_getElem h, List.map_append]
    simp [List.getD_eq_getElem?_getD, List.getElem?_eq_getElem h]
  rw [e, List.flatten_append]
  simp
theorem flt_all (ts : List Te) : flt (ts.take ts.length) = flt ts := by rw [List.take_length]
end Go.Proofs.Ytmpckbgelkfgpaa
