/- What an argument of this seat's laws gives when it is opened: a pair of numbers; a box, whose pairs lie in memory that was there. No condition. -/
import Derived.Test.YtlggbihdmabifaaGreatDoorPK19
import Derived.Test.YtlggbihdmabifaaGreatDoorRows
import Derived.WalkKit
import Derived.ProofKit
import Derived.OpenShut
import Derived.Lib.SmallJoins
import Derived.Deep.SlicePairs
namespace Go.Proofs.YtlggbihdmabifaaGreatDoor
open Go.ChangeShapes Go.WideShapes Go.ChangeAt Go.RowKit

/-- pairs that came in: the numbers fit, and their cells lie in old memory -/
def InRow (w : World) (a : Option Addr) (len cap : Nat) (ps : List (Int × Int)) : Prop :=
  ps.length = len ∧ len ≤ cap ∧ cap ≤ maxLen ∧ (∀ p ∈ ps, (-9223372036854775808 ≤ p.1 ∧ p.1 ≤ 9223372036854775807) ∧ -9223372036854775808 ≤ p.2 ∧ p.2 ≤ 9223372036854775807) ∧
  (len = 0 ∨ ∃ b off : Nat, a = some ⟨b, off, none⟩ ∧ b < w.heap.size ∧ ∀ i, i < len → w.cell? ⟨b, off + i * 2, none⟩ = some (.int .i64 (ps.getD i (0, 0)).1) ∧ w.cell? ⟨b, off + (i * 2 + 1), none⟩ = some (.int .i64 (ps.getD i (0, 0)).2))
theorem InRow.old {w w' : World} {a : Option Addr} {len cap : Nat} {ps : List (Int × Int)} (h : InRow w a len cap ps) (b : Below w.heap.size w w') : InRow w' a len cap ps := by
  obtain ⟨h1, h2, h3, h4, h5⟩ := h
  refine ⟨h1, h2, h3, h4, ?_⟩
  rcases h5 with h5 | ⟨bb, off, q1, q2, q3⟩
  · exact .inl h5
  · refine .inr ⟨bb, off, q1, Nat.lt_of_lt_of_le q2 b.size, fun i hi => ?_⟩
    exact ⟨(b.cell (p := ⟨bb, off + i * 2, none⟩) q2).trans (q3 i hi).1, (b.cell (p := ⟨bb, off + (i * 2 + 1), none⟩) q2).trans (q3 i hi).2⟩

section
variable {H : Type} {enc : TypeId × Value → H} {w : World} {base : Nat}

set_option maxRecDepth 100000 in
theorem open_lbox {r : Reach} {b0 : Nat} {v : Value} {d : DataW H} {p : List MemPlace} (hv : Value.okWide Tryz.prog w r b0 24 v) (h : DataW.Trod enc Tryz.prog w base (fun _ => true) true 24 v d p) :
    ∃ (a : Option Addr) (len cap : Nat) (ps : List (Int × Int)), v = .agg #[.slice a len cap] ∧ InRow w a len cap ps := by
  obtain ⟨cs, rfl, hsz⟩ := okWide_struct Tryz.underlying24 hv
  have hC : Tryz.prog.cellsOf 24 = 1 := by kernel_rfl
  rw [hC] at hsz
  obtain ⟨c, rfl⟩ : ∃ c, cs = #[c] := by
    obtain ⟨l⟩ := cs
    match l, hsz with
    | [c], _ => exact ⟨c, rfl⟩
  obtain ⟨fuel, hf⟩ := h
  obtain ⟨y0, n, -, -, h0⟩ := trod_struct1 Tryz.underlying24 hf
  have c1 : Tryz.prog.cellsOf 22 = 1 := by kernel_rfl
  have h1 : DataW.trod enc Tryz.prog w base (fun _ => true) true n 22 [c] = some y0 := by
    exact h0
  rcases Deep.open_slice_pairs Tryz.underlying22 Tryz.underlying64 (by kernel_rfl) rfl rfl (by kernel_rfl) (by kernel_rfl) h1 with ⟨hc, -⟩ | ⟨a, len, cap, m, k, V0, V1, D0, D1, P0, P1, hc, hb, hl, hm, hmm, -, hx⟩
  · simp at hc
    subst hc
    exact ⟨none, 0, 0, [], rfl, rfl, Nat.le_refl _, Nat.zero_le _, by simp, .inl rfl⟩
  simp at hc
  subst hc
  simp at hmm
  subst hmm
  have hz : ∀ i, ∃ p : Int × Int, i < m → ((-9223372036854775808 ≤ p.1 ∧ p.1 ≤ 9223372036854775807) ∧ -9223372036854775808 ≤ p.2 ∧ p.2 ≤ 9223372036854775807) ∧ V0 i = .int .i64 p.1 ∧ V1 i = .int .i64 p.2 := by
    intro i
    by_cases hi : i < m
    · obtain ⟨-, -, t0, t1⟩ := hx i hi
      obtain ⟨x, e0, -, w0⟩ := DataW.trod_int Tryz.underlying3 t0
      obtain ⟨y, e1, -, w1⟩ := DataW.trod_int Tryz.underlying3 t1
      simp at e0 e1
      exact ⟨(x, y), fun _ => ⟨⟨bounds_i64 w0, bounds_i64 w1⟩, e0, e1⟩⟩
    · exact ⟨(0, 0), fun h => absurd h hi⟩
  obtain ⟨f, hff⟩ := Classical.axiomOfChoice hz
  refine ⟨some a, len, m, (List.range len).map f, rfl, by simp, hl, hm, ?_, ?_⟩
  · intro p hp
    obtain ⟨i, hi, rfl⟩ := List.mem_map.1 hp
    exact (hff i (by have := List.mem_range.1 hi; omega)).1
  by_cases h0 : len = 0
  · exact .inl h0
  obtain ⟨b, off, spot⟩ := a
  have e0 := (hx 0 (by omega)).1
  have hspot : spot = none := by simpa [Addr.add] using World.cell?_spot e0
  subst hspot
  refine .inr ⟨b, off, rfl, by simpa [Addr.add] using World.block_lt_of_cell? w _ e0, fun i hi => ?_⟩
  obtain ⟨g0, g1, -, -⟩ := hx i (by omega)
  obtain ⟨-, f0, f1⟩ := hff i (by omega)
  have ad : ∀ j, (⟨b, off, none⟩ : Addr).add j = ⟨b, off + j, none⟩ := by
    intro j
    by_cases h : j = 0
    · subst h; simp [Addr.add]
    · simp [Addr.add, h]
  rw [ad] at g0 g1
  rw [f0] at g0
  rw [f1] at g1
  have eg : ((List.range len).map f).getD i (0, 0) = f i := by
    rw [List.getD_eq_getElem?_getD, List.getElem?_map, List.getElem?_range hi]; rfl
  rw [eg]
  exact ⟨g0, g1⟩
end
end Go.Proofs.YtlggbihdmabifaaGreatDoor
