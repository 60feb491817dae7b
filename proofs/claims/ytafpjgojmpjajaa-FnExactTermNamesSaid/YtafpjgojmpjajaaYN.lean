/- Terms whose nodes lie in memory of their own, as laws copy and mark them; what lists and nodes keep while another block is written. No condition. -/
import Derived.Test.YtafpjgojmpjajaaYM
namespace Go.Proofs.Ytafpjgojmpjajaa
open Go.RowKit
set_option linter.unusedVariables false
set_option maxRecDepth 100000

theorem NC.kept {w w' : World} {b o : Nat} {x : Tn} {row : Option Nat} (h : NC w b o x) (g : w.grownBy w' row) (hb : b < w.heap.size) (hne : some b ≠ row) : NC w' b o x := by
  have e := g.block b hb hne
  exact ⟨(World.cell?_of_block (a := ⟨b, o, none⟩) e).trans h.1, (World.cell?_of_block (a := ⟨b, o + 1, none⟩) e).trans h.2.1, (World.cell?_of_block (a := ⟨b, o + 2, none⟩) e).trans h.2.2⟩
theorem InN.kept' {w w' : World} {a : Option Addr} {len cap : Nat} {xs : List Tn} {row : Option Nat} (h : InN w a len cap xs) (g : w.grownBy w' row) (hne : 0 < len → ∀ q, a = some q → some q.block ≠ row) : InN w' a len cap xs := by
  obtain ⟨h1, h2, h3, h4, h5⟩ := h
  refine ⟨h1, h2, h3, h4, ?_⟩
  rcases h5 with h5 | ⟨b, off, q1, q2, q3⟩
  · exact .inl h5
  · by_cases h0 : len = 0
    · exact .inl h0
    · exact .inr ⟨b, off, q1, Nat.lt_of_lt_of_le q2 g.size, fun i hi => (q3 i hi).kept g q2 (hne (by omega) _ q1)⟩
theorem InN.far {w : World} {a : Option Addr} {len cap : Nat} {xs : List Tn} (h : InN w a len cap xs) : 0 < len → ∀ q, a = some q → q.block < w.heap.size := by
  intro h0 q e
  rcases h.2.2.2.2 with h5 | ⟨b, off, q1, q2, -⟩
  · omega
  · rw [q1] at e; injection e with e; subst e; exact q2
theorem InN.alloc {w : World} {a : Option Addr} {len cap : Nat} {xs : List Tn} (h : InN w a len cap xs) (o : Obj) : InN (w.alloc o) a len cap xs := h.al o
theorem InN.drew {w : World} {a : Option Addr} {len cap : Nat} {xs : List Tn} (h : InN w a len cap xs) : InN w.drew a len cap xs := h.dr
theorem OT.ne_old {w : World} {base cv : Nat} {av : Option Addr} {ps : List ByteArray} (h : OT w base av cv ps) {c : Nat} (hc : c < base) : some c ≠ ownB av := by
  intro e
  cases av with
  | none => cases e
  | some p => have := h.ge p rfl; simp [ownB] at e; omega
/-- a term's nodes in a block of their own, at or beyond base -/
def ON (w : World) (base b : Nat) (xs : List Tn) : Prop := (∀ x ∈ xs, x.fit) ∧ xs.length ≤ maxLen ∧ base ≤ b ∧ RowN w b xs
theorem ON.inN {w : World} {base b : Nat} {xs : List Tn} (h : ON w base b xs) : InN w (some ⟨b, 0, none⟩) xs.length xs.length xs := h.2.2.2.inN h.1 (Nat.le_refl _) h.2.1
theorem ON.later {w w' : World} {base b : Nat} {xs : List Tn} (h : ON w base b xs) (k : Below w.heap.size w w') : ON w' base b xs := ⟨h.1, h.2.1, h.2.2.1, h.2.2.2.old k⟩
theorem ON.alloc {w : World} {base b : Nat} {xs : List Tn} (h : ON w base b xs) (o : Obj) : ON (w.alloc o) base b xs := h.later ((Below.refl _ _).alloc (Nat.le_refl _) o)
theorem ON.drew {w : World} {base b : Nat} {xs : List Tn} (h : ON w base b xs) : ON w.drew base b xs := h.later (Below.refl _ _).drew
theorem ON.lt {w : World} {base b : Nat} {xs : List Tn} (h : ON w base b xs) : b < w.heap.size := h.2.2.2.1
theorem toTermO (a : Option Addr) (cap : Nat) (xs : List Tn) (w : World) (hR : InN w a xs.length cap xs) (hl : xs.length ≤ 1048576) :
    Calls Try.prog 6 #[.agg #[.slice a xs.length cap]] w fun e w' => (∃ b, e = .returned (.agg #[.slice (some ⟨b, 0, none⟩) xs.length xs.length]) ∧ ON w' w.heap.size b xs) ∧ Below w.heap.size w w' := by
  refine (lToTerm a xs.length cap xs w hR hl).mono ?_
  rintro e w' ⟨⟨b, he, hb, hr⟩, h⟩
  exact ⟨⟨b, he, hR.2.2.2.1, Nat.le_trans hR.2.1 hR.2.2.1, hb, hr⟩, h⟩
theorem lMarkTermO (base b : Nat) (xs : List Tn) (k : Int) (w : World) (h : ON w base b xs) (hl : xs.length ≤ 1048576) (k0 : 0 ≤ k) (k1 : k ≤ 16777216) :
    Calls Try.prog 10 #[.agg #[.slice (some ⟨b, 0, none⟩) xs.length xs.length], .int .i64 k] w fun e w' => e = .returned (.int .i64 (k + 3 * xs.length)) ∧ w.grownBy w' (some b) :=
  (lMarkTerm b xs.length xs.length k w h.2.2.2.anyC hl k0 k1).mono fun e w' g => ⟨g.1, g.2.2⟩
theorem Below.markedN {n : Nat} {w0 w w' : World} {base b : Nat} {xs : List Tn} (hb : Below n w0 w) (h : ON w base b xs) (g : w.grownBy w' (some b)) (hn : n ≤ base) (h0 : n ≤ w.heap.size) : Below n w0 w' :=
  hb.grown g h0 (fun k e => by injection e with e; have := h.2.2.1; omega)
end Go.Proofs.Ytafpjgojmpjajaa
