/- A new box with another pair at one coordinate: by the program (make, copy, store) and by the specification (append). Conditions: 2^20 pairs at most. -/
import Derived.Test.YtmofapcoaolndaaEA
import Derived.Laws.CopyRow
import Derived.Deep.WholeRow
namespace Go.Proofs.Ytmofapcoaolndaa
open Go.RowKit
set_option linter.unusedVariables false

theorem run_copy_two {P : Program} (w : World) (dT sT ty elem : TypeId) (g dCap : Nat) (a : Addr) (n sCap : Nat) (cur : Array Value) (t : TypeId) (cs : List Value)
    (hu : P.underlying dT = some (.slice elem)) (hs : (P.info? elem).map (·.size) = some 2)
    (hg : w.heap[g]? = some (.cells cur t (0, 0))) (hn : cs.length = n * 2) (hc : cur.size = n * 2)
    (hsrc : ∀ j v, cs[j]? = some v → w.cell? (a.add j) = some v) (h1 : ∀ v ∈ cs, v.oneCell' = true) :
    (Builtin.copy_ #[dT, sT] ty #[.slice (some ⟨g, 0, none⟩) n dCap, .slice (some a) n sCap]).run P w = .ok (goInt n) (w.setRow g cs.toArray) := by
  have hl := run_loadCells_list (P := P) w a cs hsrc
  have hst := run_storeCells_at P g 0 t cs 0 cur w hg (by rw [hn, hc]; omega) h1
  have hd : cur.toList.drop (0 + 0 + cs.length) = [] := by
    apply List.drop_eq_nil_of_le
    rw [Array.length_toList, hc, hn]; omega
  rw [hd] at hst
  cases hq : P.info? elem with
  | none => simp [hq] at hs
  | some i =>
    have hi : i.size = 2 := by simpa [hq] using hs
    simp at hst
    simp [Builtin.copy_, run_underlying hu, Builtin.lenOf, Builtin.firstCells, sizeOf, typeInfo, hq, hi, ← hn, hl, hst]
theorem flat_one (ps : List (Int × Int)) : ∀ v ∈ flat ps, v.oneCell' = true := by
  intro v hv
  unfold flat at hv
  obtain ⟨p, -, hp⟩ := List.mem_flatMap.1 hv
  simp at hp
  rcases hp with rfl | rfl <;> rfl
theorem InRow.src {w : World} {b off len cap : Nat} {ps : List (Int × Int)} (h : InRow w (some ⟨b, off, none⟩) len cap ps) (h0 : 0 < len) : ∀ j v, (flat ps)[j]? = some v → w.cell? ((⟨b, off, none⟩ : Addr).add j) = some v := by
  intro j v hj
  have hl := h.1
  have hlt : j < ps.length * 2 := by
    have := (List.getElem?_eq_some_iff.1 hj).1
    rw [flat_length] at this; exact this
  have ad : (⟨b, off, none⟩ : Addr).add j = ⟨b, off + j, none⟩ := by
    by_cases h : j = 0
    · subst h; simp [Addr.add]
    · simp [Addr.add, h]
  rw [ad]
  rcases h.2.2.2.2 with h5 | ⟨b', off', e, -, hc⟩
  · omega
  obtain ⟨rfl, rfl⟩ : b = b' ∧ off = off' := by injection e with e; injection e with h1 h2; exact ⟨h1, h2⟩
  have hc2 := hc (j / 2) (by omega)
  have f := flat_get ps (j / 2) (by omega)
  by_cases hp : j % 2 = 0
  · have ej : j / 2 * 2 = j := by omega
    rw [ej] at hc2 f
    rw [hc2.1, ← f.1, hj]
  · have ej : j / 2 * 2 + 1 = j := by omega
    rw [ej] at hc2 f
    rw [hc2.2, ← f.2, hj]
theorem Row.flat (w : World) (ps : List (Int × Int)) (t : TypeId) : Row (w.alloc (.cells (flat ps).toArray t)) w.heap.size ps := by
  refine ⟨by simp, fun i hi => ?_⟩
  have f := flat_get ps i hi
  exact ⟨⟨by simp [f.1], by simp [f.2]⟩, by simp, by simp⟩

set_option maxHeartbeats 4000000 in
theorem iBoxWith (a : Option Addr) (cap k : Nat) (ps : List (Int × Int)) (x y : Int) (w : World) (hR : InRow w a ps.length cap ps) (hk : k < ps.length) (hl : ps.length ≤ 1048576) :
    Calls Try.prog 43 #[.agg #[.slice a ps.length cap], .int .i64 (k : Int), .agg #[.int .i64 x, .int .i64 y]] w fun e w' => (∃ g, e = .returned (.agg #[.slice (some ⟨g, 0, none⟩) ps.length ps.length]) ∧ w.heap.size ≤ g ∧ Row w' g (ps.set k (x, y))) ∧ Below w.heap.size w w' := by
  have hB : Below w.heap.size w (((w.alloc (.cells #[.slice a ps.length cap] 28)).alloc (.cells #[.int .i64 x, .int .i64 y] 38)).alloc (.cells #[.slice none 0 0] 28)) := (by repeat (first | exact Below.refl _ _ | refine Below.drew ?_ | refine old_alloc ?_ _ | refine old_trans ?_ (by assumption)))
  have K : Cel1 (((w.alloc (.cells #[.slice a ps.length cap] 28)).alloc (.cells #[.int .i64 x, .int .i64 y] 38)).alloc (.cells #[.slice none 0 0] 28)) w.heap.size (.slice a ps.length cap) := ((Cel1.made w _ rfl _ _).alloc _).alloc _
  have Q : Cel2 (((w.alloc (.cells #[.slice a ps.length cap] 28)).alloc (.cells #[.int .i64 x, .int .i64 y] 38)).alloc (.cells #[.slice none 0 0] 28)) (w.heap.size + 1) (.int .i64 x) (.int .i64 y) := (Cel2.made _ _ (by simp) _ _ _).alloc _
  have O : Cel1 (((w.alloc (.cells #[.slice a ps.length cap] 28)).alloc (.cells #[.int .i64 x, .int .i64 y] 38)).alloc (.cells #[.slice none 0 0] 28)) (w.heap.size + 1 + 1) (.slice none 0 0) := Cel1.made _ _ (by simp) _ _
  have R := hR.old hB
  obtain ⟨b, off, -, -, rfl, hbl, -, -, -, -⟩ := R.at (k := 0) (by omega)
  have hmk := mkPairs (((w.alloc (.cells #[.slice (some ⟨b, off, none⟩) ps.length cap] 28)).alloc (.cells #[.int .i64 x, .int .i64 y] 38)).alloc (.cells #[.slice none 0 0] 28)) ps.length hl
  have hrow := Row.flat (((w.alloc (.cells #[.slice (some ⟨b, off, none⟩) ps.length cap] 28)).alloc (.cells #[.int .i64 x, .int .i64 y] 38)).alloc (.cells #[.slice none 0 0] 28)) ps 38
  have hsz : ((((w.alloc (.cells #[.slice (some ⟨b, off, none⟩) ps.length cap] 28)).alloc (.cells #[.int .i64 x, .int .i64 y] 38)).alloc (.cells #[.slice none 0 0] 28))).heap.size = w.heap.size + 1 + 1 + 1 := by simp
  have hcp := run_copy_two (P := Try.prog) ((((w.alloc (.cells #[.slice (some ⟨b, off, none⟩) ps.length cap] 28)).alloc (.cells #[.int .i64 x, .int .i64 y] 38)).alloc (.cells #[.slice none 0 0] 28)).alloc (.cells (madeCells #[.int .i64 0, .int .i64 0] (ps.length * 2)) 38)) 26 26 3 38 _ ps.length ⟨b, off, none⟩ ps.length cap _ 38 (flat ps) Try.underlying26 (by kernel_rfl) (World.alloc_heap_new _ _) (flat_length ps) (size_madeCells _ _) ((R.alloc _).src (by omega)) (flat_one ps)
  rw [World.setRow_alloc_new] at hcp
  have K1 := K.alloc (.cells (madeCells #[.int .i64 0, .int .i64 0] (ps.length * 2)) 38)
  have Q1 := Q.alloc (.cells (madeCells #[.int .i64 0, .int .i64 0] (ps.length * 2)) 38)
  have K2 := K.alloc (.cells (flat ps).toArray 38)
  have Q2 := Q.alloc (.cells (flat ps).toArray 38)
  have O2 := O.alloc (.cells (flat ps).toArray 38)
  have B2 := old_alloc hB (.cells (flat ps).toArray 38)
  rw [hsz] at hmk hcp hrow
  generalize (((w.alloc (.cells #[.slice (some ⟨b, off, none⟩) ps.length cap] 28)).alloc (.cells #[.int .i64 x, .int .i64 y] 38)).alloc (.cells #[.slice none 0 0] 28)).alloc (.cells (madeCells #[.int .i64 0, .int .i64 0] (ps.length * 2)) 38) = W4 at *
  generalize (((w.alloc (.cells #[.slice (some ⟨b, off, none⟩) ps.length cap] 28)).alloc (.cells #[.int .i64 x, .int .i64 y] 38)).alloc (.cells #[.slice none 0 0] 28)).alloc (.cells (flat ps).toArray 38) = W5 at *
  clear K Q O
  obtain ⟨k0, k1, k2⟩ := id K1
  obtain ⟨q0, q1, q2, q3, q4⟩ := id Q2
  obtain ⟨o0, o1, o2⟩ := id O2
  obtain ⟨x', y', -, d0, d1, d2, d3⟩ := hrow.at hk
  have hst := hrow.set k hk x y
  go_enter Try.func43, Try.ntmps43
  go_wp2
  refine bodyPost_ret (v := .agg #[.slice (some ⟨w.heap.size + 1 + 1 + 1, 0, none⟩) ps.length ps.length]) ?_ rfl ⟨⟨_, rfl, by omega, hst.other ⟨w.heap.size + 1 + 1, 0, none⟩ (by simp) _⟩, ((B2.setCell (p := ⟨w.heap.size + 1 + 1 + 1, k * 2, none⟩) (by simp; omega) _).setCell (p := ⟨w.heap.size + 1 + 1 + 1, k * 2 + 1, none⟩) (by simp; omega) _).setCell (p := ⟨w.heap.size + 1 + 1, 0, none⟩) (by simp; omega) _⟩
  simp [results, Try.results43, go_sem, o0]
end Go.Proofs.Ytmofapcoaolndaa
