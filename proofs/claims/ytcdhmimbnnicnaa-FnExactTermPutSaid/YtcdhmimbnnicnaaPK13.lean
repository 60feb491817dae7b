/- A term's own nodes, marked by a law: nothing but their block is written. Condition: 2^20 nodes at most. -/
import Derived.Test.YtcdhmimbnnicnaaPK07
import Derived.Test.YtcdhmimbnnicnaaPK12
namespace Go.Proofs.Ytcdhmimbnnicnaa
open Go.RowKit
set_option linter.unusedVariables false
set_option maxRecDepth 100000

/-- cells of a block that may be written -/
def AnyC (w : World) (b n : Nat) : Prop := b < w.heap.size ∧ ∀ i, i < n → (∃ u v s, w.cell? ⟨b, i * 3, none⟩ = some u ∧ w.cell? ⟨b, i * 3 + 1, none⟩ = some v ∧ w.cell? ⟨b, i * 3 + 2, none⟩ = some s) ∧ w.frozen? ⟨b, i * 3, none⟩ = false ∧ w.frozen? ⟨b, i * 3 + 1, none⟩ = false ∧ w.frozen? ⟨b, i * 3 + 2, none⟩ = false
theorem RowN.anyC {w : World} {b : Nat} {xs : List Tn} (h : RowN w b xs) : AnyC w b xs.length := ⟨h.1, fun i hi => ⟨⟨_, _, _, (h.2 i hi).1.1, (h.2 i hi).1.2.1, (h.2 i hi).1.2.2⟩, (h.2 i hi).2⟩⟩
theorem AnyC.old {w w' : World} {b n : Nat} (h : AnyC w b n) (k : Below w.heap.size w w') : AnyC w' b n := by
  refine ⟨Nat.lt_of_lt_of_le h.1 k.size, fun i hi => ?_⟩
  obtain ⟨⟨u, v, s, h1, h2, h3⟩, f1, f2, f3⟩ := h.2 i hi
  exact ⟨⟨u, v, s, (k.cell (p := ⟨b, i * 3, none⟩) h.1).trans h1, (k.cell (p := ⟨b, i * 3 + 1, none⟩) h.1).trans h2, (k.cell (p := ⟨b, i * 3 + 2, none⟩) h.1).trans h3⟩, (k.frozen (p := ⟨b, i * 3, none⟩) h.1).trans f1, (k.frozen (p := ⟨b, i * 3 + 1, none⟩) h.1).trans f2, (k.frozen (p := ⟨b, i * 3 + 2, none⟩) h.1).trans f3⟩
theorem cell_some_set {w : World} {b i j : Nat} {v : Value} (h : ∃ u, w.cell? ⟨b, i, none⟩ = some u) : ∃ u, (w.setCell ⟨b, j, none⟩ v).cell? ⟨b, i, none⟩ = some u := by
  obtain ⟨u, hu⟩ := h
  by_cases e : i = j
  · subst e; exact ⟨v, World.cell?_setCell_same _ _ _ hu⟩
  · exact ⟨u, by rw [cellN_other w b b i j v (.inr e)]; exact hu⟩
theorem AnyC.set {w : World} {b n : Nat} (h : AnyC w b n) (j : Nat) (v : Value) : AnyC (w.setCell ⟨b, j, none⟩ v) b n := by
  refine ⟨by simpa [World.setCell] using h.1, fun i hi => ?_⟩
  obtain ⟨⟨u, v', s, h1, h2, h3⟩, f1, f2, f3⟩ := h.2 i hi
  obtain ⟨u1, g1⟩ := cell_some_set (j := j) (v := v) ⟨u, h1⟩
  obtain ⟨u2, g2⟩ := cell_some_set (j := j) (v := v) ⟨v', h2⟩
  obtain ⟨u3, g3⟩ := cell_some_set (j := j) (v := v) ⟨s, h3⟩
  exact ⟨⟨u1, u2, u3, g1, g2, g3⟩, by simpa using f1, by simpa using f2, by simpa using f3⟩
set_option maxHeartbeats 4000000 in
theorem lMarkNodes (b n cap : Nat) (k : Int) (w : World) (hr : AnyC w b n) (hl : n ≤ 1048576) (k0 : 0 ≤ k) (k1 : k ≤ 16777216) :
    Calls Try.prog 46 #[.slice (some ⟨b, 0, none⟩) n cap, .int .i64 k] w fun e w' => e = .returned (.int .i64 (k + 3 * n)) ∧ AnyC w' b n ∧ w.grownBy w' (some b) := by
  go_enter Try.func46, Try.ntmps46
  go_wp2
  go_loopw [1, 5] (fun s i wr => ∃ (j : Nat), j ≤ n ∧ s = .int .i64 (k + 3 * j) ∧ i = .int .i64 (j : Int) ∧ AnyC wr b n ∧ w.grownBy wr (some b)) (fun _ i _ => n - (intOf i).toNat)
  case atStart => exact ⟨0, by omega, by simp, rfl, hr, World.grownBy.refl _ _⟩
  case round =>
    obtain ⟨j, hj, rfl, rfl, hrr, hg⟩ := hrel
    by_cases hlt : j < n
    · obtain ⟨⟨u, v, s, c0, c1, c2⟩, f0, f1, f2⟩ := hrr.2 j hlt
      have hji : (j : Int) < (n : Int) := by omega
      obtain ⟨q, hq⟩ : ∃ q : Int, k + 3 * (j : Int) = q := ⟨_, rfl⟩
      have hqb : 0 ≤ q ∧ q ≤ 19922944 := by omega
      rw [hq]
      have hq' := hd hq
      clear hq
      have hr1 := (hrr.set (j * 3) (.int .i64 q)).set (j * 3 + 1) (.int .i64 (q + 1))
      have hg1 := grown_set (grown_set hg (j * 3) (.int .i64 q)) (j * 3 + 1) (.int .i64 (q + 1))
      have MT := hd (fun w' => lMarkText (q + 1 + 1) (by omega) w')
      generalize mtx (q + 1 + 1) = tx at *
      go_wp2_with fail
      generalize (wr.setCell ⟨b, j * 3, none⟩ (.int .i64 q)).setCell ⟨b, j * 3 + 1, none⟩ (.int .i64 (q + 1)) = w1 at *
      refine (MT.out _).mono ?_
      rintro e w2 ⟨rfl, hb2⟩
      have hr2 := hr1.old hb2
      obtain ⟨⟨u2, v2, s2, d0, d1, d2⟩, e0, e1, e2⟩ := hr2.2 j hlt
      have hr3 := hr2.set (j * 3 + 2) (.string tx)
      have hg3 := grown_set (grown_on hg1 hb2) (j * 3 + 2) (.string tx)
      clear c0 c1 c2 f0 f1 f2
      go_wp2
      go_roundw
      case rel => exact ⟨j + 1, by omega, by have := hq'.out; congr 1; omega, by go_num, hr3, hg3⟩
      case measure => simp [intOf]; omega
    · obtain rfl : j = n := by omega
      go_wp2
      go_ret
      exact ⟨rfl, hrr, hg⟩
set_option maxHeartbeats 1000000 in
theorem lMarkTerm (b n cap : Nat) (k : Int) (w : World) (hr : AnyC w b n) (hl : n ≤ 1048576) (k0 : 0 ≤ k) (k1 : k ≤ 16777216) :
    Calls Try.prog 17 #[.agg #[.slice (some ⟨b, 0, none⟩) n cap], .int .i64 k] w fun e w' => e = .returned (.int .i64 (k + 3 * n)) ∧ AnyC w' b n ∧ w.grownBy w' (some b) := by
  have hal : Below w.heap.size w (w.alloc (.cells #[.slice (some ⟨b, 0, none⟩) n cap] 32)) := old_alloc (Below.refl _ _) _
  have hr1 := hr.old hal
  have MN := hd (lMarkNodes b n cap k _ hr1 hl k0 k1)
  have hg0 := grown_on (World.grownBy.refl w (some b)) hal
  go_enter Try.func17, Try.ntmps17
  go_wp2_with fail
  refine MN.out.mono ?_
  rintro e w2 ⟨rfl, hr2, hg2⟩
  go_wp2
  go_ret
  exact ⟨rfl, hr2, hg0.trans hg2⟩
end Go.Proofs.Ytcdhmimbnnicnaa

/- Terms whose nodes lie in memory of their own, as laws copy and mark them; what lists and nodes keep while another block is written. No condition. -/
namespace Go.Proofs.Ytcdhmimbnnicnaa
open Go.RowKit
set_option linter.unusedVariables false
set_option maxRecDepth 100000

theorem NC.kept {w w' : World} {b o : Nat} {x : Tn} {row : Option Nat} (h : NC w b o x) (g : w.grownBy w' row) (hb : b < w.heap.size) (hne : some b ≠ row) : NC w' b o x := by
  have e := g.block b hb hne
  exact ⟨(World.cell?_of_block (a := ⟨b, o, none⟩) e).trans h.1, (World.cell?_of_block (a := ⟨b, o + 1, none⟩) e).trans h.2.1, (World.cell?_of_block (a := ⟨b, o + 2, none⟩) e).trans h.2.2⟩
theorem InN.far {w : World} {a : Option Addr} {len cap : Nat} {xs : List Tn} (h : InN w a len cap xs) : 0 < len → ∀ q, a = some q → q.block < w.heap.size := by
  intro h0 q e
  rcases h.2.2.2.2 with h5 | ⟨b, off, q1, q2, -⟩
  · omega
  · rw [q1] at e; injection e with e; subst e; exact q2
theorem InN.alloc {w : World} {a : Option Addr} {len cap : Nat} {xs : List Tn} (h : InN w a len cap xs) (o : Obj) : InN (w.alloc o) a len cap xs := h.al o
theorem InN.drew {w : World} {a : Option Addr} {len cap : Nat} {xs : List Tn} (h : InN w a len cap xs) : InN w.drew a len cap xs := h.dr
/-- a term's nodes in a block of their own, at or beyond base -/
def ON (w : World) (base b : Nat) (xs : List Tn) : Prop := (∀ x ∈ xs, x.fit) ∧ xs.length ≤ maxLen ∧ base ≤ b ∧ RowN w b xs
theorem ON.inN {w : World} {base b : Nat} {xs : List Tn} (h : ON w base b xs) : InN w (some ⟨b, 0, none⟩) xs.length xs.length xs := h.2.2.2.inN h.1 (Nat.le_refl _) h.2.1
theorem ON.later {w w' : World} {base b : Nat} {xs : List Tn} (h : ON w base b xs) (k : Below w.heap.size w w') : ON w' base b xs := ⟨h.1, h.2.1, h.2.2.1, h.2.2.2.old k⟩
theorem ON.alloc {w : World} {base b : Nat} {xs : List Tn} (h : ON w base b xs) (o : Obj) : ON (w.alloc o) base b xs := h.later ((Below.refl _ _).alloc (Nat.le_refl _) o)
theorem ON.drew {w : World} {base b : Nat} {xs : List Tn} (h : ON w base b xs) : ON w.drew base b xs := h.later (Below.refl _ _).drew
theorem ON.lt {w : World} {base b : Nat} {xs : List Tn} (h : ON w base b xs) : b < w.heap.size := h.2.2.2.1
theorem toTermO (a : Option Addr) (cap : Nat) (xs : List Tn) (w : World) (hR : InN w a xs.length cap xs) (hl : xs.length ≤ 1048576) :
    Calls Try.prog 10 #[.agg #[.slice a xs.length cap]] w fun e w' => (∃ b, e = .returned (.agg #[.slice (some ⟨b, 0, none⟩) xs.length xs.length]) ∧ ON w' w.heap.size b xs) ∧ Below w.heap.size w w' := by
  refine (lToTerm a xs.length cap xs w hR hl).mono ?_
  rintro e w' ⟨⟨b, he, hb, hr⟩, h⟩
  exact ⟨⟨b, he, hR.2.2.2.1, Nat.le_trans hR.2.1 hR.2.2.1, hb, hr⟩, h⟩
theorem lMarkTermO (base b : Nat) (xs : List Tn) (k : Int) (w : World) (h : ON w base b xs) (hl : xs.length ≤ 1048576) (k0 : 0 ≤ k) (k1 : k ≤ 16777216) :
    Calls Try.prog 17 #[.agg #[.slice (some ⟨b, 0, none⟩) xs.length xs.length], .int .i64 k] w fun e w' => e = .returned (.int .i64 (k + 3 * xs.length)) ∧ w.grownBy w' (some b) :=
  (lMarkTerm b xs.length xs.length k w h.2.2.2.anyC hl k0 k1).mono fun e w' g => ⟨g.1, g.2.2⟩
theorem Below.markedN {n : Nat} {w0 w w' : World} {base b : Nat} {xs : List Tn} (hb : Below n w0 w) (h : ON w base b xs) (g : w.grownBy w' (some b)) (hn : n ≤ base) (h0 : n ≤ w.heap.size) : Below n w0 w' :=
  hb.grown g h0 (fun k e => by injection e with e; have := h.2.2.1; omega)
end Go.Proofs.Ytcdhmimbnnicnaa
