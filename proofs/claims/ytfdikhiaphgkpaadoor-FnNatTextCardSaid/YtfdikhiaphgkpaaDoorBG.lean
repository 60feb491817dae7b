/- Digits that move up by one place in their own row, by copy; and how many bits a number lacks to whole digits. No condition. -/
import Derived.Test.YtfdikhiaphgkpaaDoorBF
import Derived.Laws.IdiomCopy
import Derived.Test.YtfdikhiaphgkpaaDoorBC
import Derived.Test.YtfdikhiaphgkpaaDoorBD
namespace Go.Proofs.YtfdikhiaphgkpaaDoor
open Go.RowKit Go.Shelf
set_option linter.unusedVariables false
set_option maxRecDepth 100000

theorem grown_setCells {w : World} (b : Nat) : ∀ (vs : List Value) (o : Nat) (w' : World), w.grownBy w' (some b) → w.grownBy (w'.setCells b o vs) (some b)
  | [], _, _, h => h
  | v :: r, o, w', h => grown_setCells b r (o + 1) _ (grown_set h o v)
theorem keeps_setCells (b : Nat) : ∀ (vs : List Value) (o : Nat) (w : World), KeepsOthers w (w.setCells b o vs)
  | [], _, w => KeepsOthers.refl w
  | v :: r, o, w => (KeepsOthers.setCell w _ _).trans (keeps_setCells b r (o + 1) _)
theorem same_grown {P : Nat → Prop} {w w' : World} {b : Nat} (h : w.grownBy w' (some b)) (hb : ¬ P b) : Same P w w' := ⟨h.size, fun k hk hl => h.block k hl (by intro e; injection e with e1; subst e1; exact hb hk)⟩
theorem below_grown {n : Nat} {w0 w w' : World} {b : Nat} (hb : Below n w0 w) (h : w.grownBy w' (some b)) (hn : n ≤ b) (hs : n ≤ w.heap.size) : Below n w0 w' := hb.grown h hs (fun k e => by injection e with e1; omega)
theorem add_plain (g o j : Nat) : (⟨g, o, none⟩ : Addr).add j = ⟨g, o + j, none⟩ := by
  by_cases h : j = 0
  · subst h; simp [Addr.add]
  · simp [Addr.add, h]
theorem copyUp {w : World} {g n c1 c2 : Nat} {rs : List Int} (hr : IRow w g rs) (hl : rs.length = n + 1) :
    (∀ ty, (Builtin.copy_ #[35, 35] ty #[.slice (some ⟨g, 1, none⟩) n c1, .slice (some ⟨g, 0, none⟩) (n + 1) c2]).run Tryd.prog w = .ok (goInt n) (w.setCells g 1 (ints (rs.take n)))) ∧
    IRow (w.setCells g 1 (ints (rs.take n))) g (rs.getD 0 0 :: rs.take n) := by
  have hlen : (ints (rs.take n)).length = n := by rw [ints_length, List.length_take]; omega
  have hsrc : ∀ j v, (ints (rs.take n))[j]? = some v → w.cell? ((⟨g, 0, none⟩ : Addr).add j) = some v := by
    intro j v hj
    have hjn : j < n := by
      have := (List.getElem?_eq_some_iff.1 hj).1
      omega
    rw [ints_get (by rw [List.length_take]; omega), take_getD hjn] at hj
    rw [add_plain, Nat.zero_add]
    rw [(hr.2 j (by omega)).1]; exact hj
  have hc : ∀ j, j < (ints (rs.take n)).length → (w.cell? ⟨g, 1 + j, none⟩).isSome = true := fun j hj => by
    rw [(hr.2 (1 + j) (by omega)).1]; rfl
  have hf : ∀ j, j < (ints (rs.take n)).length → w.frozen? ⟨g, 1 + j, none⟩ = false := fun j hj => (hr.2 (1 + j) (by omega)).2
  have h1 : ∀ v ∈ ints (rs.take n), v.oneCell' = true := by
    intro v hv
    unfold ints at hv
    obtain ⟨x, -, rfl⟩ := List.mem_map.1 hv
    rfl
  refine ⟨fun ty => ?_, ?_⟩
  · have h := run_copy_cells (P := Tryd.prog) w 35 35 ty 3 g 1 n c1 ⟨g, 0, none⟩ (n + 1) c2 (ints (rs.take n)) Tryd.underlying35 (by kernel_rfl) (by rw [hlen]; exact (Nat.min_eq_right (by omega)).symm) hsrc hc hf h1
    rw [hlen] at h
    exact h
  · have hg0 := grown_setCells (w := w) g (ints (rs.take n)) 1 w (World.grownBy.refl _ _)
    refine ⟨Nat.lt_of_lt_of_le hr.1 hg0.size, fun i hi => ?_⟩
    rw [List.length_cons, List.length_take, Nat.min_eq_left (by omega)] at hi
    refine ⟨?_, by rw [World.frozen?_setCells]; exact (hr.2 i (by omega)).2⟩
    cases i with
    | zero =>
      rw [World.cell?_setCells_out g _ 1 w _ (fun _ _ => Or.inl (by simp))]
      exact (hr.2 0 (by omega)).1
    | succ i =>
      have h := World.cell?_setCells_in g (ints (rs.take n)) 1 w hc i (by omega)
      rw [show i + 1 = 1 + i by omega, h]
      rw [show 1 + i = i + 1 by omega, List.getD_cons_succ]
      have := ints_get (xs := rs.take n) (i := i) (by rw [List.length_take]; omega)
      rw [List.getElem?_eq_getElem (by omega)] at this
      exact this
theorem hlvI_le (k : Nat) : k ≤ 16 → ∀ d : Int, 0 ≤ d → d < ((2 ^ k : Nat) : Int) → hlvI d ≤ k := by
  induction k with
  | zero =>
    intro _ d h0 h1
    obtain rfl : d = 0 := by simp at h1; omega
    rw [hlvI_zero]; omega
  | succ k ih =>
    intro hk d h0 h1
    by_cases hd : d = 0
    · subst hd; rw [hlvI_zero]; omega
    · have hle : (2 : Nat) ^ (k + 1) ≤ 2 ^ 16 := Nat.pow_le_pow_right (by omega) hk
      have h16 : (2 : Nat) ^ 16 = 65536 := by decide
      have hps : (2 : Nat) ^ (k + 1) = 2 ^ k * 2 := Nat.pow_succ ..
      rw [hlvI_half (by omega) (by omega)]
      have := ih (by omega) (d / 2) (by omega) (by omega)
      omega
theorem digit_bits {t : Int} (h0 : 0 < t) (h1 : t < 65536) : 1 ≤ hlvI t ∧ hlvI t ≤ 16 := by
  have h16 : ((2 ^ 16 : Nat) : Int) = 65536 := by decide
  refine ⟨?_, hlvI_le 16 (by omega) t (by omega) (by rw [h16]; exact h1)⟩
  rw [hlvI_half h0 h1]
  have := (hlvI_bd (g := t / 2) (by omega)).1
  omega
/-- how many bits lack to whole digits -/
theorem lack {ys : List Int} {n : Nat} (hy : digs ys) (ty : topped ys) (hl : ys.length = n) (h0 : 0 < n) : ∃ p : Nat, p < 16 ∧ (n : Int) * 16 - bitsN ys = (p : Int) ∧ 0 ≤ bitsN ys ∧ bitsN ys ≤ 16 * (n : Int) := by
  have d := digs_getD hy (n - 1)
  have ht := ty.resolve_left (by omega)
  rw [hl] at ht
  unfold dig at d
  have hb := digit_bits (t := ys.getD (n - 1) 0) (by omega) d.2
  have e : bitsN ys = 16 * ((n : Int) - 1) + hlvI (ys.getD (n - 1) 0) := by unfold bitsN; rw [if_neg (by omega), hl]
  generalize hlvI (ys.getD (n - 1) 0) = z at *
  exact ⟨(16 - z).toNat, by omega, by omega, by omega, by omega⟩
end Go.Proofs.YtfdikhiaphgkpaaDoor

/- The program's quotient and rest by a number of two digits or more: new lists that share no memory. Conditions: digits, no needless noughts. -/
namespace Go.Proofs.YtfdikhiaphgkpaaDoor
open Go.RowKit Go.Shelf
attribute [local go_sem] Oper.semAt_some
set_option linter.unusedVariables false
set_option maxRecDepth 100000

theorem cells_of_cell {W : World} {j i : Nat} {v : Value} {o : Obj} (h : W.cell? ⟨j, i, none⟩ = some v) (ho : W.heap[j]? = some o) : o.isCells = true := by
  cases o <;> first | rfl | (simp [World.cell?, ho] at h)
theorem mul_len2 {xs : List Int} {p : Nat} (hx : digs xs) (hp : p < 16) : (natL (2 ^ p * val xs)).length ≤ xs.length + 1 := by
  have h2 : 2 ^ p ≤ 65536 := by
    have : 2 ^ p ≤ 2 ^ 16 := Nat.pow_le_pow_right (by omega) (by omega)
    have e : (2 : Nat) ^ 16 = 65536 := by decide
    omega
  have := mul_len (U := 2 ^ p) hx h2
  rwa [Nat.mul_comm] at this
end Go.Proofs.YtfdikhiaphgkpaaDoor

/- Quotients and rests of numbers: by the program and by the specification. No condition. -/
namespace Go.Proofs.YtfdikhiaphgkpaaDoor
open Go.RowKit
set_option linter.unusedVariables false
set_option maxRecDepth 100000

theorem sepB {a b : Option Addr} (h : Sep a b) : ∀ q, a = some q → some q.block ≠ ownB b := by
  intro q e e2
  cases b with
  | none => cases e2
  | some p => simp [ownB] at e2; exact h q p e rfl e2
def divB (xs ys : List Int) : Bool := natOk xs && (natOk ys && decide (ys.length ≠ 0))
def divQ (xs ys : List Int) : List Int := if divB xs ys then natL (val xs / val ys) else []
def divR (xs ys : List Int) : List Int := if divB xs ys then natL (val xs % val ys) else []
theorem divB_in {xs ys : List Int} (h : divB xs ys = true) : natOk xs = true ∧ natOk ys = true ∧ 0 < ys.length := by
  unfold divB at h
  simp only [Bool.and_eq_true, decide_eq_true_eq] at h
  exact ⟨h.1, h.2.1, by omega⟩
theorem divQ_len {xs ys : List Int} : (divQ xs ys).length ≤ 1048576 := by
  unfold divQ
  split
  · rename_i g
    have h := natOk_lt (divB_in g).1
    have := natL_len.2 (Nat.lt_of_le_of_lt (Nat.div_le_self (val xs) (val ys)) h)
    omega
  · simp
theorem divR_len {xs ys : List Int} : (divR xs ys).length ≤ 1048576 := by
  unfold divR
  split
  · rename_i g
    have h := natOk_lt (divB_in g).1
    have := natL_len.2 (Nat.lt_of_le_of_lt (Nat.mod_le (val xs) (val ys)) h)
    omega
  · simp
end Go.Proofs.YtfdikhiaphgkpaaDoor
