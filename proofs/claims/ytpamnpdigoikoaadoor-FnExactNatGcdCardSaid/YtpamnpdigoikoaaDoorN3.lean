/- Lists of whole numbers in memory of their own: those that grow by append, those that were made; what a mark leaves. No condition. -/
import Derived.Test.YtpamnpdigoikoaaDoorN2
namespace Go.Proofs.YtpamnpdigoikoaaDoor
open Go.RowKit
set_option linter.unusedVariables false
set_option maxRecDepth 100000

def ints (xs : List Int) : List Value := xs.map (fun x => .int .i64 x)
theorem ints_length (xs : List Int) : (ints xs).length = xs.length * 1 := by simp [ints]
theorem ints_snoc (xs : List Int) (x : Int) : ints (xs ++ [x]) = ints xs ++ [.int .i64 x] := by simp [ints]
theorem ints_get {xs : List Int} {i : Nat} (h : i < xs.length) : (ints xs)[i]? = some (.int .i64 (xs.getD i 0)) := by
  simp [ints, List.getD_eq_getElem?_getD, h]
/-- a list that is being made -/
def IGrows (w : World) (base : Nat) (v : Value) (xs : List Int) : Prop := w.ownsRow base 3 1 v xs.length (ints xs)
theorem IGrows.nil (w : World) (base : Nat) : IGrows w base (.slice none 0 0) [] := World.ownsRow_nil w base _ _
theorem IGrows.kept {w w' : World} {base : Nat} {v : Value} {xs : List Int} {row : Option Nat} (h : IGrows w base v xs) (g : w.grownBy w' row) (hne : ∀ b, row = some b → b < base) : IGrows w' base v xs := by
  refine World.ownsRow.kept h g ?_
  cases hv : v.ownBlock with
  | none => exact .inl rfl
  | some k =>
    refine .inr (fun e => ?_)
    have := hne k e.symm
    have := (World.ownsRow.lt h k hv).1
    omega
theorem IGrows.later {w w' : World} {base : Nat} {v : Value} {xs : List Int} (h : IGrows w base v xs) (g : Below w.heap.size w w') : IGrows w' base v xs := h.kept (grown_below g) (by simp)
theorem IGrows.alloc {w : World} {base : Nat} {v : Value} {xs : List Int} (h : IGrows w base v xs) (o : Obj) : IGrows (w.alloc o) base v xs := h.later ((Below.refl _ _).alloc (Nat.le_refl _) o)
theorem IGrows.far {w : World} {base : Nat} {v : Value} {xs : List Int} (h : IGrows w base v xs) {c : Nat} (hc : c < base) : some c ≠ v.ownBlock := fun e => by have := (World.ownsRow.lt h c e.symm).1; omega
theorem IGrows.row {w : World} {base : Nat} {v : Value} {xs : List Int} (h : IGrows w base v xs) (hp : 0 < xs.length) : ∃ g cap, v = .slice (some ⟨g, 0, none⟩) xs.length cap ∧ base ≤ g ∧ xs.length ≤ cap ∧ cap ≤ maxLen ∧ IRow w g xs := by
  have h' := h
  rcases h.2 with ⟨_, h0⟩ | ⟨g, cap, cur, rfl, hb, hg, h1, h2, -, -⟩
  · omega
  refine ⟨g, cap, rfl, hb, h1, h2, (Array.getElem?_eq_some_iff.1 hg).1, fun i hi => ?_⟩
  exact ⟨(World.ownsRow.cellAt h' i (by omega)).trans (ints_get hi), World.ownsRow.frozenAt h' _⟩
theorem IGrows.none {w : World} {base : Nat} {v : Value} (h : IGrows w base v []) : ∃ av cv, v = .slice av 0 cv := by
  rcases h.2 with ⟨h0, _⟩ | ⟨g, cap, cur, rfl, hb, hg, h1, h2, -, -⟩
  · exact ⟨_, _, h0⟩
  · exact ⟨_, _, rfl⟩
theorem cells_one (w : World) (b : Nat) (hb : b = w.heap.size) (x : Value) (t : TypeId) : ∀ j u, [x][j]? = some u → (w.alloc (.cells #[x] t)).cell? ((⟨b, 0, none⟩ : Addr).add j) = some u := by
  subst hb
  intro j u h
  match j, h with
  | 0, h => simp at h; subst h; simp [Addr.add]
  | j + 1, h => simp at h

def ownB (av : Option Addr) : Option Nat := av.map (·.block)
/-- numbers in memory of their own, at or beyond base; or none -/
def OI (w : World) (base : Nat) (av : Option Addr) (cv : Nat) (xs : List Int) : Prop :=
  IFits xs ∧ xs.length ≤ cv ∧ cv ≤ maxLen ∧ ((av = none ∧ xs = []) ∨ ∃ g, av = some ⟨g, 0, none⟩ ∧ base ≤ g ∧ IRow w g xs)
theorem fits_nil : IFits [] := fun p hp => absurd hp (by simp)
theorem OI.none (w : World) (base : Nat) : OI w base none 0 [] := ⟨fits_nil, Nat.le_refl _, Nat.zero_le _, .inl ⟨rfl, rfl⟩⟩
theorem IGrows.oi {w : World} {base : Nat} {v : Value} {xs : List Int} (h : IGrows w base v xs) (f : IFits xs) : ∃ av cv, v = .slice av xs.length cv ∧ OI w base av cv xs := by
  by_cases h0 : 0 < xs.length
  · obtain ⟨g, cap, rfl, h1, h2, h3, h4⟩ := h.row h0
    exact ⟨_, _, rfl, f, h2, h3, .inr ⟨g, rfl, h1, h4⟩⟩
  · obtain rfl : xs = [] := List.length_eq_zero_iff.1 (by omega)
    rcases h.2 with ⟨h1, _⟩ | ⟨g, cap, cur, rfl, hb, hg, h1, h2, -, -⟩
    · exact ⟨_, _, h1, fits_nil, Nat.le_refl _, Nat.zero_le _, .inl ⟨rfl, rfl⟩⟩
    · exact ⟨_, _, rfl, fits_nil, h1, h2, .inr ⟨g, rfl, hb, (Array.getElem?_eq_some_iff.1 hg).1, fun i hi => absurd hi (by simp)⟩⟩
section
variable {w w' : World} {base cv : Nat} {av : Option Addr} {ps : List Int}
theorem OI.inI (h : OI w base av cv ps) : InI w av ps.length cv ps := by
  obtain ⟨h1, h2, h3, ⟨rfl, rfl⟩ | ⟨g, rfl, h4, h5⟩⟩ := h
  · exact ⟨rfl, h2, h3, h1, .inl rfl⟩
  · exact h5.inI h1 h2 h3
theorem OI.mono {base' : Nat} (h : OI w base av cv ps) (hb : base' ≤ base) : OI w base' av cv ps := by
  obtain ⟨h1, h2, h3, h4 | ⟨g, h4, h5, h6⟩⟩ := h
  · exact ⟨h1, h2, h3, .inl h4⟩
  · exact ⟨h1, h2, h3, .inr ⟨g, h4, by omega, h6⟩⟩
theorem OI.later (h : OI w base av cv ps) (k : Below w.heap.size w w') : OI w' base av cv ps := by
  obtain ⟨h1, h2, h3, h4 | ⟨g, h4, h5, h6⟩⟩ := h
  · exact ⟨h1, h2, h3, .inl h4⟩
  · exact ⟨h1, h2, h3, .inr ⟨g, h4, h5, h6.old k⟩⟩
theorem OI.alloc (h : OI w base av cv ps) (o : Obj) : OI (w.alloc o) base av cv ps := h.later ((Below.refl _ _).alloc (Nat.le_refl _) o)
theorem OI.drew (h : OI w base av cv ps) : OI w.drew base av cv ps := h
theorem OI.kept {row : Option Nat} (h : OI w base av cv ps) (g : w.grownBy w' row) (hne : ∀ q, av = some q → some q.block ≠ row) : OI w' base av cv ps := by
  obtain ⟨h1, h2, h3, h4 | ⟨c, h4, h5, h6⟩⟩ := h
  · exact ⟨h1, h2, h3, .inl h4⟩
  · exact ⟨h1, h2, h3, .inr ⟨c, h4, h5, h6.kept g (hne _ h4)⟩⟩
theorem OI.lt (h : OI w base av cv ps) : ∀ q, av = some q → q.block < w.heap.size := by
  intro q e
  obtain ⟨h1, h2, h3, ⟨rfl, _⟩ | ⟨c, rfl, h5, h6⟩⟩ := h
  · cases e
  · cases e; exact h6.1
theorem OI.ge (h : OI w base av cv ps) : ∀ q, av = some q → base ≤ q.block := by
  intro q e
  obtain ⟨h1, h2, h3, ⟨rfl, _⟩ | ⟨c, rfl, h5, h6⟩⟩ := h
  · cases e
  · cases e; exact h5
theorem OI.sep (h : OI w base av cv ps) {a : Option Addr} (hc : ∀ q, a = some q → q.block < base) : ∀ q, a = some q → some q.block ≠ ownB av := by
  intro q e e2
  cases av with
  | none => cases e2
  | some p => have := h.ge p rfl; have := hc q e; simp [ownB] at e2; omega
theorem OI.sep' (h : OI w base av cv ps) {a : Option Addr} (hc : ∀ q, a = some q → q.block < base) : ∀ q, av = some q → some q.block ≠ ownB a := by
  intro q e e2
  have := h.ge q e
  cases a with
  | none => cases e2
  | some p => have := hc p rfl; simp [ownB] at e2; omega
end
theorem Below.marked {n : Nat} {w0 w w' : World} {base cv : Nat} {av : Option Addr} {ps : List Int} (hb : Below n w0 w) (h : OI w base av cv ps) (g : w.grownBy w' (ownB av)) (hn : n ≤ base) (h0 : n ≤ w.heap.size) : Below n w0 w' :=
  hb.grown g h0 (fun k e => by
    cases av with
    | none => cases e
    | some q => have := h.ge q rfl; simp [ownB] at e; omega)
theorem toIntsO (a : Option Addr) (cap : Nat) (xs : List Int) (w : World) (hR : InI w a xs.length cap xs) (hl : xs.length ≤ 1048576) :
    Calls Tryd.prog 17 #[.slice a xs.length cap] w fun e w' => (∃ av cv, e = .returned (.slice av xs.length cv) ∧ OI w' w.heap.size av cv xs) ∧ Below w.heap.size w w' := by
  refine (lToInts a _ cap xs w hR hl).mono ?_
  rintro e w' ⟨⟨he, hr⟩, h⟩
  exact ⟨⟨_, _, he, hR.2.2.2.1, Nat.le_refl _, Nat.le_trans hR.2.1 hR.2.2.1, .inr ⟨_, rfl, Nat.le_refl _, hr⟩⟩, h⟩
theorem lEqO (av av' : Option Addr) (cv cv' base base' : Nat) (xs : List Int) (w : World) (h : OI w base av cv xs) (h' : OI w base' av' cv' xs) :
    Calls Tryd.prog 18 #[.slice av xs.length cv, .slice av' xs.length cv'] w fun e w' => e = .returned (.bool true) ∧ Below w.heap.size w w' :=
  lEqInts av av' xs.length cv cv' xs w h.inI h'.inI
theorem lMarkO (base : Nat) (av : Option Addr) (cv : Nat) (xs : List Int) (k : Int) (w : World) (h : OI w base av cv xs) (hl : xs.length ≤ 1048576) (k0 : 0 ≤ k) (k1 : k ≤ 16777216) :
    Calls Tryd.prog 19 #[.slice av xs.length cv, .int .i64 k] w fun e w' => e = .returned (.int .i64 (k + xs.length)) ∧ OI w' base av cv (imarks k xs.length) ∧ w.grownBy w' (ownB av) := by
  obtain ⟨h1, h2, h3, ⟨rfl, rfl⟩ | ⟨g, rfl, h4, h5⟩⟩ := h
  · refine (lMarkNone none cv k w).mono ?_
    rintro e w' ⟨rfl, rfl⟩
    exact ⟨by simp, ⟨fits_nil, h2, h3, .inl ⟨rfl, rfl⟩⟩, World.grownBy.refl _ _⟩
  · refine (lMarkRow g cv xs k w h5 hl k0 k1).mono ?_
    rintro e w' ⟨he, hr, hg⟩
    exact ⟨he, ⟨imarks_fits k0 k1 hl, by rw [imarks_length]; exact h2, h3, .inr ⟨g, rfl, h4, hr⟩⟩, hg⟩
theorem lHeldO (base : Nat) (av : Option Addr) (cv n : Nat) (k : Int) (w : World) (h : OI w base av cv (imarks k n)) (hl : n ≤ 1048576) (k0 : 0 ≤ k) (k1 : k ≤ 16777216) :
    Calls Tryd.prog 20 #[.slice av n cv, .int .i64 k] w fun e w' => e = .returned (.int .i64 (k + n)) ∧ Below w.heap.size w w' := by
  have hi := h.inI
  rw [imarks_length] at hi
  refine (lHeldInts av cv n k w hi hl k0 k1).mono ?_
  rintro e w' ⟨rfl, rfl⟩
  exact ⟨rfl, Below.refl _ _⟩
end Go.Proofs.YtpamnpdigoikoaaDoor
