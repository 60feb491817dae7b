/- A term's own nodes, marked by a law: nothing but their block is written. Condition: 2^20 nodes at most. -/
import Derived.Test.YtmpckbgelkfgpaaPK19
import Derived.Test.YtmpckbgelkfgpaaPK13
import Derived.Test.YtmpckbgelkfgpaaPK07
namespace Go.Proofs.Ytmpckbgelkfgpaa
open Go.RowKit
set_option linter.unusedVariables false
set_option maxRecDepth 100000

/-- cells of a block that may be written -/
def AnyC (w : World) (b n : Nat) : Prop := b < w.heap.size ∧ ∀ i, i < n → (∃ u v s, w.cell? ⟨b, i * 3, none⟩ = some u ∧ w.cell? ⟨b, i * 3 + 1, none⟩ = some v ∧ w.cell? ⟨b, i * 3 + 2, none⟩ = some s) ∧ w.frozen? ⟨b, i * 3, none⟩ = false ∧ w.frozen? ⟨b, i * 3 + 1, none⟩ = false ∧ w.frozen? ⟨b, i * 3 + 2, none⟩ = false
theorem AnyC.old {w w' : World} {b n : Nat} (h : AnyC w b n) (k : Below w.heap.size w w') : AnyC w' b n := by
  refine ⟨Nat.lt_of_lt_of_le h.1 k.size, fun i hi => ?_⟩
  obtain ⟨⟨u, v, s, h1, h2, h3⟩, f1, f2, f3⟩ := h.2 i hi
  exact ⟨⟨u, v, s, (k.cell (p := ⟨b, i * 3, none⟩) h.1).trans h1, (k.cell (p := ⟨b, i * 3 + 1, none⟩) h.1).trans h2, (k.cell (p := ⟨b, i * 3 + 2, none⟩) h.1).trans h3⟩, (k.frozen (p := ⟨b, i * 3, none⟩) h.1).trans f1, (k.frozen (p := ⟨b, i * 3 + 1, none⟩) h.1).trans f2, (k.frozen (p := ⟨b, i * 3 + 2, none⟩) h.1).trans f3⟩
theorem cell_some_set {w : World} {b i j : Nat} {v : Value} (h : ∃ u, w.cell? ⟨b, i, none⟩ = some u) : ∃ u, (w.setCell ⟨b, j, none⟩ v).cell? ⟨b, i, none⟩ = some u := by
  obtain ⟨u, hu⟩ := h
  by_cases e : i = j
  · subst e; exact ⟨v, World.cell?_setCell_same _ _ _ hu⟩
  · exact ⟨u, by rw [cellN_other w b b i j v (.inr e)]; exact hu⟩
theorem AnyC.set {w : World} {b n : Nat} (h : AnyC w b n) (j : Nat) (v : Value) : AnyC (w.setCell ⟨b, j, none⟩ v) b n := by
  refine ⟨by simpa [World.setCell] using h.1, fun i hi => ?_⟩
  obtain ⟨⟨u, v', s, h1, h2, h3⟩, f1, f2, f3⟩ := h.2 i hi
  obtain ⟨u1, g1⟩ := cell_some_set (j := j) (v := v) ⟨u, h1⟩
  obtain ⟨u2, g2⟩ := cell_some_set (j := j) (v := v) ⟨v', h2⟩
  obtain ⟨u3, g3⟩ := cell_some_set (j := j) (v := v) ⟨s, h3⟩
  exact ⟨⟨u1, u2, u3, g1, g2, g3⟩, by simpa using f1, by simpa using f2, by simpa using f3⟩
end Go.Proofs.Ytmpckbgelkfgpaa

/- Terms whose nodes lie in memory of their own, as laws copy and mark them; what lists and nodes keep while another block is written. No condition. -/
namespace Go.Proofs.Ytmpckbgelkfgpaa
open Go.RowKit
set_option linter.unusedVariables false
set_option maxRecDepth 100000

theorem NC.kept {w w' : World} {b o : Nat} {x : Tn} {row : Option Nat} (h : NC w b o x) (g : w.grownBy w' row) (hb : b < w.heap.size) (hne : some b ≠ row) : NC w' b o x := by
  have e := g.block b hb hne
  exact ⟨(World.cell?_of_block (a := ⟨b, o, none⟩) e).trans h.1, (World.cell?_of_block (a := ⟨b, o + 1, none⟩) e).trans h.2.1, (World.cell?_of_block (a := ⟨b, o + 2, none⟩) e).trans h.2.2⟩
theorem InN.far {w : World} {a : Option Addr} {len cap : Nat} {xs : List Tn} (h : InN w a len cap xs) : 0 < len → ∀ q, a = some q → q.block < w.heap.size := by
  intro h0 q e
  rcases h.2.2.2.2 with h5 | ⟨b, off, q1, q2, -⟩
  · omega
  · rw [q1] at e; injection e with e; subst e; exact q2
theorem InN.alloc {w : World} {a : Option Addr} {len cap : Nat} {xs : List Tn} (h : InN w a len cap xs) (o : Obj) : InN (w.alloc o) a len cap xs := h.al o
theorem InN.drew {w : World} {a : Option Addr} {len cap : Nat} {xs : List Tn} (h : InN w a len cap xs) : InN w.drew a len cap xs := h.dr
/-- a term's nodes in a block of their own, at or beyond base -/
def ON (w : World) (base b : Nat) (xs : List Tn) : Prop := (∀ x ∈ xs, x.fit) ∧ xs.length ≤ maxLen ∧ base ≤ b ∧ RowN w b xs
theorem ON.inN {w : World} {base b : Nat} {xs : List Tn} (h : ON w base b xs) : InN w (some ⟨b, 0, none⟩) xs.length xs.length xs := h.2.2.2.inN h.1 (Nat.le_refl _) h.2.1
theorem ON.later {w w' : World} {base b : Nat} {xs : List Tn} (h : ON w base b xs) (k : Below w.heap.size w w') : ON w' base b xs := ⟨h.1, h.2.1, h.2.2.1, h.2.2.2.old k⟩
theorem ON.alloc {w : World} {base b : Nat} {xs : List Tn} (h : ON w base b xs) (o : Obj) : ON (w.alloc o) base b xs := h.later ((Below.refl _ _).alloc (Nat.le_refl _) o)
theorem ON.drew {w : World} {base b : Nat} {xs : List Tn} (h : ON w base b xs) : ON w.drew base b xs := h.later (Below.refl _ _).drew
theorem ON.lt {w : World} {base b : Nat} {xs : List Tn} (h : ON w base b xs) : b < w.heap.size := h.2.2.2.1
end Go.Proofs.Ytmpckbgelkfgpaa

/- A graph's own rows, marked by a law: nothing but they is written. Condition: 2^20 nodes and relations at most. -/
namespace Go.Proofs.Ytmpckbgelkfgpaa
open Go.RowKit
set_option linter.unusedVariables false
set_option maxRecDepth 100000

/-- cells of a block that may be written -/
def AnyV (w : World) (b m : Nat) : Prop := b < w.heap.size ∧ ∀ i, i < m → ∃ v, w.cell? ⟨b, i, none⟩ = some v ∧ w.frozen? ⟨b, i, none⟩ = false
theorem AnyV.old {w w' : World} {b m : Nat} (h : AnyV w b m) (k : Below w.heap.size w w') : AnyV w' b m := by
  refine ⟨Nat.lt_of_lt_of_le h.1 k.size, fun i hi => ?_⟩
  obtain ⟨v, h1, h2⟩ := h.2 i hi
  exact ⟨v, (k.cell (p := ⟨b, i, none⟩) h.1).trans h1, (k.frozen (p := ⟨b, i, none⟩) h.1).trans h2⟩
theorem AnyV.set {w : World} {b m : Nat} (h : AnyV w b m) (j : Nat) (v : Value) : AnyV (w.setCell ⟨b, j, none⟩ v) b m := by
  refine ⟨by simpa [World.setCell] using h.1, fun i hi => ?_⟩
  obtain ⟨u, h1, h2⟩ := h.2 i hi
  by_cases e : i = j
  · subst e; exact ⟨v, World.cell?_setCell_same _ _ _ h1, by simpa using h2⟩
  · exact ⟨u, (cellGn_other w b b i j v (.inr e)).trans h1, by simpa using h2⟩
theorem AnyV.setA {w : World} {b m : Nat} (h : AnyV w b m) (c j : Nat) (v : Value) : AnyV (w.setCell ⟨c, j, none⟩ v) b m := by
  by_cases e : b = c
  · subst e; exact h.set j v
  · refine ⟨by simpa [World.setCell] using h.1, fun i hi => ?_⟩
    obtain ⟨u, h1, h2⟩ := h.2 i hi
    exact ⟨u, (cellGn_other w b c i j v (.inl e)).trans h1, by simpa using h2⟩
theorem AnyV.kept {w w' : World} {b m : Nat} {row : Option Nat} (h : AnyV w b m) (g : w.grownBy w' row) (hne : some b ≠ row) : AnyV w' b m := by
  have e := g.block b h.1 hne
  refine ⟨Nat.lt_of_lt_of_le h.1 g.size, fun i hi => ?_⟩
  obtain ⟨v, h1, h2⟩ := h.2 i hi
  exact ⟨v, (World.cell?_of_block (a := ⟨b, i, none⟩) e).trans h1, (World.frozen?_of_block (a := ⟨b, i, none⟩) e).trans h2⟩
theorem RowGn.anyV {w : World} {b : Nat} {xs : List Gn} (h : RowGn w b xs) : AnyV w b (xs.length * 5) := by
  refine ⟨h.1, fun i hi => ?_⟩
  obtain ⟨c, f⟩ := h.2 (i / 5) (by omega)
  obtain ⟨c0, c1, c2, c3, c4⟩ := c
  have F := f (i % 5) (by omega)
  rw [show i / 5 * 5 + i % 5 = i by omega] at F
  have hm : i = i / 5 * 5 ∨ i = i / 5 * 5 + 1 ∨ i = i / 5 * 5 + 2 ∨ i = i / 5 * 5 + 3 ∨ i = i / 5 * 5 + 4 := by omega
  rcases hm with e | e | e | e | e
  · rw [← e] at c0; exact ⟨_, c0, F⟩
  · rw [← e] at c1; exact ⟨_, c1, F⟩
  · rw [← e] at c2; exact ⟨_, c2, F⟩
  · rw [← e] at c3; exact ⟨_, c3, F⟩
  · rw [← e] at c4; exact ⟨_, c4, F⟩
theorem RowGr.anyV {w : World} {b : Nat} {xs : List Gr} (h : RowGr w b xs) : AnyV w b (xs.length * 3) := by
  refine ⟨h.1, fun i hi => ?_⟩
  obtain ⟨c, f⟩ := h.2 (i / 3) (by omega)
  obtain ⟨c0, c1, c2⟩ := c
  have F := f (i % 3) (by omega)
  rw [show i / 3 * 3 + i % 3 = i by omega] at F
  have hm : i = i / 3 * 3 ∨ i = i / 3 * 3 + 1 ∨ i = i / 3 * 3 + 2 := by omega
  rcases hm with e | e | e
  · rw [← e] at c0; exact ⟨_, c0, F⟩
  · rw [← e] at c1; exact ⟨_, c1, F⟩
  · rw [← e] at c2; exact ⟨_, c2, F⟩
set_option maxHeartbeats 8000000 in
theorem lMarkGns (b n cap : Nat) (k : Int) (w : World) (hr : AnyV w b (n * 5)) (hl : n ≤ 1048576) (k0 : 0 ≤ k) (k1 : k ≤ 16777216) :
    Calls Try.prog 86 #[.slice (some ⟨b, 0, none⟩) n cap, .int .i64 k] w fun e w' => e = .returned (.int .i64 (k + 5 * n)) ∧ w.grownBy w' (some b) ∧ (∀ b' m', AnyV w b' m' → AnyV w' b' m') := by
  go_enter Try.func86, Try.ntmps86
  go_wp2
  go_loopw [1, 5] (fun s i wr => ∃ (j : Nat), j ≤ n ∧ s = .int .i64 (k + 5 * j) ∧ i = .int .i64 (j : Int) ∧ Hid (∀ b' m', AnyV w b' m' → AnyV wr b' m') ∧ w.grownBy wr (some b)) (fun _ i _ => n - (intOf i).toNat)
  case atStart => exact ⟨0, by omega, by simp, rfl, fun _ _ h => h, World.grownBy.refl _ _⟩
  case round =>
    obtain ⟨j, hj, rfl, rfl, hk, hg⟩ := hrel
    have hrr := hk.out _ _ hr
    by_cases hlt : j < n
    · have hji : (j : Int) < (n : Int) := by omega
      have hjm : j * 5 + 5 ≤ n * 5 := by omega
      obtain ⟨u0, c0, f0⟩ := hrr.2 (j * 5) (by omega)
      obtain ⟨u1, c1, f1⟩ := hrr.2 (j * 5 + 1) (by omega)
      obtain ⟨u2, c2, f2⟩ := hrr.2 (j * 5 + 2) (by omega)
      obtain ⟨u3, c3, f3⟩ := hrr.2 (j * 5 + 3) (by omega)
      obtain ⟨u4, c4, f4⟩ := hrr.2 (j * 5 + 4) (by omega)
      obtain ⟨q, hq⟩ : ∃ q : Int, k + 5 * (j : Int) = q := ⟨_, rfl⟩
      have hqb : 0 ≤ q ∧ q ≤ 22020096 := by omega
      rw [hq]
      have hq' := hd hq
      clear hq
      have hk1 := hd (fun b' m' h => (((((hk.out b' m' h).setA b (j * 5) (.int .i64 (q))).setA b (j * 5 + 1) (.int .i64 (q + 1))).setA b (j * 5 + 2) (.int .i64 (q + 1 + 1))).setA b (j * 5 + 3) (.int .i64 (q + 1 + 1 + 1))))
      have hg1 := (grown_set (grown_set (grown_set (grown_set hg (j * 5) (.int .i64 (q))) (j * 5 + 1) (.int .i64 (q + 1))) (j * 5 + 2) (.int .i64 (q + 1 + 1))) (j * 5 + 3) (.int .i64 (q + 1 + 1 + 1)))
      have MT := hd (fun w' => lMarkText (q + 1 + 1 + 1 + 1) (by omega) w')
      generalize mtx (q + 1 + 1 + 1 + 1) = tx at *
      go_wp2_with fail
      generalize ((((wr.setCell ⟨b, j * 5, none⟩ (.int .i64 (q))).setCell ⟨b, j * 5 + 1, none⟩ (.int .i64 (q + 1))).setCell ⟨b, j * 5 + 2, none⟩ (.int .i64 (q + 1 + 1))).setCell ⟨b, j * 5 + 3, none⟩ (.int .i64 (q + 1 + 1 + 1))) = w1 at *
      refine (MT.out _).mono ?_
      rintro e w2 ⟨rfl, hb2⟩
      have hk2 := hd (fun b' m' h => (hk1.out b' m' h).old hb2)
      have hr2 := hk2.out _ _ hr
      have hg2 := grown_on hg1 hb2
      clear c0 f0 c1 f1 c2 f2 c3 f3 c4 f4
      obtain ⟨d, d0, e0⟩ := hr2.2 (j * 5 + 4) (by omega)
      have hk3 := hd (fun b' m' h => (hk2.out b' m' h).setA b (j * 5 + 4) (.string tx))
      have hg3 := grown_set hg2 (j * 5 + 4) (.string tx)
      go_wp2
      go_roundw
      case rel => exact ⟨j + 1, by omega, by have := hq'.out; congr 1; omega, by go_num, hk3, hg3⟩
      case measure => simp [intOf]; omega
    · obtain rfl : j = n := by omega
      go_wp2
      go_ret
      exact ⟨rfl, hg, hk.out⟩
set_option maxHeartbeats 8000000 in
theorem lMarkGrs (b n cap : Nat) (k : Int) (w : World) (hr : AnyV w b (n * 3)) (hl : n ≤ 1048576) (k0 : 0 ≤ k) (k1 : k ≤ 16777216) :
    Calls Try.prog 87 #[.slice (some ⟨b, 0, none⟩) n cap, .int .i64 k] w fun e w' => e = .returned (.int .i64 (k + 3 * n)) ∧ w.grownBy w' (some b) ∧ (∀ b' m', AnyV w b' m' → AnyV w' b' m') := by
  go_enter Try.func87, Try.ntmps87
  go_wp2
  go_loopw [1, 5] (fun s i wr => ∃ (j : Nat), j ≤ n ∧ s = .int .i64 (k + 3 * j) ∧ i = .int .i64 (j : Int) ∧ Hid (∀ b' m', AnyV w b' m' → AnyV wr b' m') ∧ w.grownBy wr (some b)) (fun _ i _ => n - (intOf i).toNat)
  case atStart => exact ⟨0, by omega, by simp, rfl, fun _ _ h => h, World.grownBy.refl _ _⟩
  case round =>
    obtain ⟨j, hj, rfl, rfl, hk, hg⟩ := hrel
    have hrr := hk.out _ _ hr
    by_cases hlt : j < n
    · have hji : (j : Int) < (n : Int) := by omega
      have hjm : j * 3 + 3 ≤ n * 3 := by omega
      obtain ⟨u0, c0, f0⟩ := hrr.2 (j * 3) (by omega)
      obtain ⟨u1, c1, f1⟩ := hrr.2 (j * 3 + 1) (by omega)
      obtain ⟨u2, c2, f2⟩ := hrr.2 (j * 3 + 2) (by omega)
      obtain ⟨q, hq⟩ : ∃ q : Int, k + 3 * (j : Int) = q := ⟨_, rfl⟩
      have hqb : 0 ≤ q ∧ q ≤ 22020096 := by omega
      rw [hq]
      have hq' := hd hq
      clear hq
      have hk1 := hd (fun b' m' h => ((((hk.out b' m' h).setA b (j * 3) (.int .i64 (q))).setA b (j * 3 + 1) (.int .i64 (q + 1))).setA b (j * 3 + 2) (.int .i64 (q + 1 + 1))))
      have hg1 := (grown_set (grown_set (grown_set hg (j * 3) (.int .i64 (q))) (j * 3 + 1) (.int .i64 (q + 1))) (j * 3 + 2) (.int .i64 (q + 1 + 1)))
      go_wp2
      go_roundw
      case rel => exact ⟨j + 1, by omega, by have := hq'.out; congr 1; omega, by go_num, hk1, hg1⟩
      case measure => simp [intOf]; omega
    · obtain rfl : j = n := by omega
      go_wp2
      go_ret
      exact ⟨rfl, hg, hk.out⟩
set_option maxHeartbeats 4000000 in
theorem lMarkGraph (vs : Int) (bn br n m : Nat) (k : Int) (w : World) (hn : AnyV w bn (n * 5)) (hm : AnyV w br (m * 3)) (hl : n ≤ 1048576) (hl' : m ≤ 1048576) (k0 : 0 ≤ k) (k1 : k ≤ 8388608) :
    Calls Try.prog 36 #[.agg #[.int .i64 vs, .slice (some ⟨bn, 0, none⟩) n n, .slice (some ⟨br, 0, none⟩) m m], .int .i64 k] w fun e w' => e = .returned (.int .i64 (k + 5 * n + 3 * m)) ∧ (∃ wm, w.grownBy wm (some bn) ∧ wm.grownBy w' (some br)) := by
  have hal : Below w.heap.size w (w.alloc (.cells #[.int .i64 vs, .slice (some ⟨bn, 0, none⟩) n n, .slice (some ⟨br, 0, none⟩) m m] 71)) := old_alloc (Below.refl _ _) _
  have K : CS (w.alloc (.cells #[.int .i64 vs, .slice (some ⟨bn, 0, none⟩) n n, .slice (some ⟨br, 0, none⟩) m m] 71)) w.heap.size [.int .i64 vs, .slice (some ⟨bn, 0, none⟩) n n, .slice (some ⟨br, 0, none⟩) m m] := CS.made w _ rfl #[_, _, _] _
  have hg0 := grown_on (World.grownBy.refl w (some bn)) hal
  have lbn := hn.1
  have lbr := hm.1
  replace hn := hn.old hal
  replace hm := hm.old hal
  have MN := hd (lMarkGns bn n n k _ hn hl k0 (by omega))
  have MR := hd (fun k w h k0 k1 => lMarkGrs br m m k w h hl' k0 k1)
  have k1' := K.cell 1 _ rfl
  go_enter Try.func36, Try.ntmps36
  go_wp2_with fail
  refine MN.out.mono ?_
  rintro e w2 ⟨rfl, hg2, hk2⟩
  generalize w.alloc (.cells #[.int .i64 vs, .slice (some ⟨bn, 0, none⟩) n n, .slice (some ⟨br, 0, none⟩) m m] 71) = W1 at *
  have lk := K.lt
  replace K := K.keptTn hg2 (by intro h; injection h with h; omega)
  replace hm := hk2 _ _ hm
  clear hk2
  have k2' := K.cell 2 _ rfl
  obtain ⟨q, hq⟩ : ∃ q : Int, k + 5 * (n : Int) = q := ⟨_, rfl⟩
  have hqb : 0 ≤ q ∧ q ≤ 16777216 := by omega
  rw [hq]
  have hq' := hd hq
  clear hq k1'
  have MR2 := hd (MR.out q w2 hm hqb.1 hqb.2)
  clear MR MN
  go_wp2_with fail
  refine MR2.out.mono ?_
  rintro e w3 ⟨rfl, hg3, -⟩
  go_wp2
  go_ret
  exact ⟨by rw [hq'.out]; rfl, w2, hg0.trans hg2, hg3⟩
end Go.Proofs.Ytmpckbgelkfgpaa
