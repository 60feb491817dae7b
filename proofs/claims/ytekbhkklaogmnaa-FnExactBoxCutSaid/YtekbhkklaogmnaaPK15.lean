/- Stores into a new variable leave the boxes and rows that lay ahead. No condition. -/
import Derived.Test.YtekbhkklaogmnaaPK14
import Derived.Laws.CopyRow
import Derived.Deep.WholeRow
import Derived.Deep.AppendLies
import Derived.Deep.RegionHeld3
import Derived.Deep.RegionLaw
import Derived.Test.YtekbhkklaogmnaaPK05
namespace Go.Proofs.Ytekbhkklaogmnaa
open Go.RowKit
set_option linter.unusedVariables false
set_option maxRecDepth 100000

theorem OB.mono {w : World} {b b' cv : Nat} {av : Option Addr} {ps : List (Int × Int)} (h : OB w b av cv ps) (hb : b' ≤ b) : OB w b' av cv ps := by
  obtain ⟨h1, h2, h3, h4 | ⟨g, h4, h5, h6⟩⟩ := h
  · exact ⟨h1, h2, h3, .inl h4⟩
  · exact ⟨h1, h2, h3, .inr ⟨g, h4, Nat.le_trans hb h5, h6⟩⟩
theorem OB.set {w : World} {base cv : Nat} {av : Option Addr} {ps : List (Int × Int)} (h : OB w base av cv ps) (b : Nat) (hne : ∀ q, av = some q → q.block ≠ b) (v : Value) : OB (w.setCell ⟨b, 0, none⟩ v) base av cv ps := by
  obtain ⟨h1, h2, h3, h4 | ⟨g, h4, h5, h6⟩⟩ := h
  · exact ⟨h1, h2, h3, .inl h4⟩
  · exact ⟨h1, h2, h3, .inr ⟨g, h4, h5, h6.other ⟨b, 0, none⟩ (hne _ h4) v⟩⟩
theorem Cel1.aside {w : World} {c : Nat} {x : Value} (h : Cel1 w c x) (b : Nat) (hne : c ≠ b) (y : Value) : Cel1 (w.setCell ⟨b, 0, none⟩ y) c x := h.other ⟨b, 0, none⟩ hne y
theorem Below.aside {n : Nat} {w0 w : World} (h : Below n w0 w) (b : Nat) (hb : n ≤ b) (v : Value) : Below n w0 (w.setCell ⟨b, 0, none⟩ v) := h.setCell (p := ⟨b, 0, none⟩) hb v
end Go.Proofs.Ytekbhkklaogmnaa

/- A new box with another pair at one coordinate: by the program (make, copy, store) and by the specification (append). Conditions: 2^20 pairs at most. -/
namespace Go.Proofs.Ytekbhkklaogmnaa
open Go.RowKit
set_option linter.unusedVariables false
set_option maxRecDepth 100000

theorem run_copy_two {P : Program} (w : World) (dT sT ty elem : TypeId) (g dCap : Nat) (a : Addr) (n sCap : Nat) (cur : Array Value) (t : TypeId) (cs : List Value)
    (hu : P.underlying dT = some (.slice elem)) (hs : (P.info? elem).map (·.size) = some 2)
    (hg : w.heap[g]? = some (.cells cur t (0, 0))) (hn : cs.length = n * 2) (hc : cur.size = n * 2)
    (hsrc : ∀ j v, cs[j]? = some v → w.cell? (a.add j) = some v) (h1 : ∀ v ∈ cs, v.oneCell' = true) :
    (Builtin.copy_ #[dT, sT] ty #[.slice (some ⟨g, 0, none⟩) n dCap, .slice (some a) n sCap]).run P w = .ok (goInt n) (w.setRow g cs.toArray) := by
  have hl := run_loadCells_list (P := P) w a cs hsrc
  have hst := run_storeCells_at P g 0 t cs 0 cur w hg (by rw [hn, hc]; omega) h1
  have hd : cur.toList.drop (0 + 0 + cs.length) = [] := by
    apply List.drop_eq_nil_of_le
    rw [Array.length_toList, hc, hn]; omega
  rw [hd] at hst
  cases hq : P.info? elem with
  | none => simp [hq] at hs
  | some i =>
    have hi : i.size = 2 := by simpa [hq] using hs
    simp at hst
    simp [Builtin.copy_, run_underlying hu, Builtin.lenOf, Builtin.firstCells, sizeOf, typeInfo, hq, hi, ← hn, hl, hst]
theorem flat_one (ps : List (Int × Int)) : ∀ v ∈ flat ps, v.oneCell' = true := by
  intro v hv
  unfold flat at hv
  obtain ⟨p, -, hp⟩ := List.mem_flatMap.1 hv
  simp at hp
  rcases hp with rfl | rfl <;> rfl
theorem InRow.src {w : World} {b off len cap : Nat} {ps : List (Int × Int)} (h : InRow w (some ⟨b, off, none⟩) len cap ps) (h0 : 0 < len) : ∀ j v, (flat ps)[j]? = some v → w.cell? ((⟨b, off, none⟩ : Addr).add j) = some v := by
  intro j v hj
  have hl := h.1
  have hlt : j < ps.length * 2 := by
    have := (List.getElem?_eq_some_iff.1 hj).1
    rw [flat_length] at this; exact this
  have ad : (⟨b, off, none⟩ : Addr).add j = ⟨b, off + j, none⟩ := by
    by_cases h : j = 0
    · subst h; simp [Addr.add]
    · simp [Addr.add, h]
  rw [ad]
  rcases h.2.2.2.2 with h5 | ⟨b', off', e, -, hc⟩
  · omega
  obtain ⟨rfl, rfl⟩ : b = b' ∧ off = off' := by injection e with e; injection e with h1 h2; exact ⟨h1, h2⟩
  have hc2 := hc (j / 2) (by omega)
  have f := flat_get ps (j / 2) (by omega)
  by_cases hp : j % 2 = 0
  · have ej : j / 2 * 2 = j := by omega
    rw [ej] at hc2 f
    rw [hc2.1, ← f.1, hj]
  · have ej : j / 2 * 2 + 1 = j := by omega
    rw [ej] at hc2 f
    rw [hc2.2, ← f.2, hj]
theorem Row.flat (w : World) (ps : List (Int × Int)) (t : TypeId) : Row (w.alloc (.cells (flat ps).toArray t)) w.heap.size ps := by
  refine ⟨by simp, fun i hi => ?_⟩
  have f := flat_get ps i hi
  exact ⟨⟨by simp [f.1], by simp [f.2]⟩, by simp, by simp⟩

set_option maxHeartbeats 4000000 in
theorem iBoxWith (a : Option Addr) (cap k : Nat) (ps : List (Int × Int)) (x y : Int) (w : World) (hR : InRow w a ps.length cap ps) (hk : k < ps.length) (hl : ps.length ≤ 1048576) :
    Calls Try.prog 26 #[.agg #[.slice a ps.length cap], .int .i64 (k : Int), .agg #[.int .i64 x, .int .i64 y]] w fun e w' => (∃ g, e = .returned (.agg #[.slice (some ⟨g, 0, none⟩) ps.length ps.length]) ∧ w.heap.size ≤ g ∧ Row w' g (ps.set k (x, y))) ∧ Below w.heap.size w w' := by
  have hB : Below w.heap.size w (((w.alloc (.cells #[.slice a ps.length cap] 30)).alloc (.cells #[.int .i64 x, .int .i64 y] 34)).alloc (.cells #[.slice none 0 0] 30)) := (by repeat (first | exact Below.refl _ _ | refine Below.drew ?_ | refine old_alloc ?_ _ | refine old_trans ?_ (by assumption)))
  have K : Cel1 (((w.alloc (.cells #[.slice a ps.length cap] 30)).alloc (.cells #[.int .i64 x, .int .i64 y] 34)).alloc (.cells #[.slice none 0 0] 30)) w.heap.size (.slice a ps.length cap) := ((Cel1.made w _ rfl _ _).alloc _).alloc _
  have Q : Cel2 (((w.alloc (.cells #[.slice a ps.length cap] 30)).alloc (.cells #[.int .i64 x, .int .i64 y] 34)).alloc (.cells #[.slice none 0 0] 30)) (w.heap.size + 1) (.int .i64 x) (.int .i64 y) := (Cel2.made _ _ (by simp) _ _ _).alloc _
  have O : Cel1 (((w.alloc (.cells #[.slice a ps.length cap] 30)).alloc (.cells #[.int .i64 x, .int .i64 y] 34)).alloc (.cells #[.slice none 0 0] 30)) (w.heap.size + 1 + 1) (.slice none 0 0) := Cel1.made _ _ (by simp) _ _
  have R := hR.old hB
  obtain ⟨b, off, -, -, rfl, hbl, -, -, -, -⟩ := R.at (k := 0) (by omega)
  have hmk := mkPairs (((w.alloc (.cells #[.slice (some ⟨b, off, none⟩) ps.length cap] 30)).alloc (.cells #[.int .i64 x, .int .i64 y] 34)).alloc (.cells #[.slice none 0 0] 30)) ps.length hl
  have hrow := Row.flat (((w.alloc (.cells #[.slice (some ⟨b, off, none⟩) ps.length cap] 30)).alloc (.cells #[.int .i64 x, .int .i64 y] 34)).alloc (.cells #[.slice none 0 0] 30)) ps 34
  have hsz : ((((w.alloc (.cells #[.slice (some ⟨b, off, none⟩) ps.length cap] 30)).alloc (.cells #[.int .i64 x, .int .i64 y] 34)).alloc (.cells #[.slice none 0 0] 30))).heap.size = w.heap.size + 1 + 1 + 1 := by simp
  have hcp := run_copy_two (P := Try.prog) ((((w.alloc (.cells #[.slice (some ⟨b, off, none⟩) ps.length cap] 30)).alloc (.cells #[.int .i64 x, .int .i64 y] 34)).alloc (.cells #[.slice none 0 0] 30)).alloc (.cells (madeCells #[.int .i64 0, .int .i64 0] (ps.length * 2)) 34)) 28 28 3 34 _ ps.length ⟨b, off, none⟩ ps.length cap _ 34 (flat ps) Try.underlying28 (by kernel_rfl) (World.alloc_heap_new _ _) (flat_length ps) (size_madeCells _ _) ((R.alloc _).src (by omega)) (flat_one ps)
  rw [World.setRow_alloc_new] at hcp
  have K1 := K.alloc (.cells (madeCells #[.int .i64 0, .int .i64 0] (ps.length * 2)) 34)
  have Q1 := Q.alloc (.cells (madeCells #[.int .i64 0, .int .i64 0] (ps.length * 2)) 34)
  have K2 := K.alloc (.cells (flat ps).toArray 34)
  have Q2 := Q.alloc (.cells (flat ps).toArray 34)
  have O2 := O.alloc (.cells (flat ps).toArray 34)
  have B2 := old_alloc hB (.cells (flat ps).toArray 34)
  rw [hsz] at hmk hcp hrow
  generalize (((w.alloc (.cells #[.slice (some ⟨b, off, none⟩) ps.length cap] 30)).alloc (.cells #[.int .i64 x, .int .i64 y] 34)).alloc (.cells #[.slice none 0 0] 30)).alloc (.cells (madeCells #[.int .i64 0, .int .i64 0] (ps.length * 2)) 34) = W4 at *
  generalize (((w.alloc (.cells #[.slice (some ⟨b, off, none⟩) ps.length cap] 30)).alloc (.cells #[.int .i64 x, .int .i64 y] 34)).alloc (.cells #[.slice none 0 0] 30)).alloc (.cells (flat ps).toArray 34) = W5 at *
  clear K Q O
  obtain ⟨k0, k1, k2⟩ := id K1
  obtain ⟨q0, q1, q2, q3, q4⟩ := id Q2
  obtain ⟨o0, o1, o2⟩ := id O2
  obtain ⟨x', y', -, d0, d1, d2, d3⟩ := hrow.at hk
  have hst := hrow.set k hk x y
  go_enter Try.func26, Try.ntmps26
  go_wp2
  refine bodyPost_ret (v := .agg #[.slice (some ⟨w.heap.size + 1 + 1 + 1, 0, none⟩) ps.length ps.length]) ?_ rfl ⟨⟨_, rfl, by omega, hst.other ⟨w.heap.size + 1 + 1, 0, none⟩ (by simp) _⟩, ((B2.setCell (p := ⟨w.heap.size + 1 + 1 + 1, k * 2, none⟩) (by simp; omega) _).setCell (p := ⟨w.heap.size + 1 + 1 + 1, k * 2 + 1, none⟩) (by simp; omega) _).setCell (p := ⟨w.heap.size + 1 + 1, 0, none⟩) (by simp; omega) _⟩
  simp [results, Try.results26, go_sem, o0]
end Go.Proofs.Ytekbhkklaogmnaa

/- A new box with another pair at one coordinate, by the specification's loop over append. Conditions: 2^20 pairs at most. -/
namespace Go.Proofs.Ytekbhkklaogmnaa
open Go.RowKit
set_option linter.unusedVariables false
set_option maxRecDepth 100000

theorem Cel2.kept {w w' : World} {c : Nat} {x y : Value} {row : Option Nat} (h : Cel2 w c x y) (g : w.grownBy w' row) (hne : some c ≠ row) : Cel2 w' c x y := by
  obtain ⟨h1, h2, h3, h4, h5⟩ := h
  have e := g.block c h5 hne
  exact ⟨(World.cell?_of_block (a := ⟨c, 0, none⟩) e).trans h1, (World.cell?_of_block (a := ⟨c, 1, none⟩) e).trans h2, (World.frozen?_of_block (a := ⟨c, 0, none⟩) e).trans h3, (World.frozen?_of_block (a := ⟨c, 1, none⟩) e).trans h4, Nat.lt_of_lt_of_le h5 g.size⟩
def withX (ps : List (Int × Int)) (k : Nat) (x : Int) (i : Nat) : Int := if i = k then x else (ps.getD i (0, 0)).1
def withY (ps : List (Int × Int)) (k : Nat) (y : Int) (i : Nat) : Int := if i = k then y else (ps.getD i (0, 0)).2
theorem with_eq (ps : List (Int × Int)) (k : Nat) (x y : Int) : madeL ps.length (withX ps k x) (withY ps k y) = ps.set k (x, y) := by
  apply List.ext_getElem
  · simp [madeL]
  · intro i h1 h2
    have hi : i < ps.length := by simpa [madeL] using h1
    by_cases e : i = k
    · subst e; simp [madeL, withX, withY]
    · simp [madeL, withX, withY, e, Ne.symm e, List.getD_eq_getElem?_getD, hi]

set_option maxRecDepth 100000 in
set_option maxHeartbeats 4000000 in
theorem sWith (a : Option Addr) (cap k : Nat) (ps : List (Int × Int)) (x y : Int) (w : World) (hR : InRow w a ps.length cap ps) (hk : k < ps.length) (hl : ps.length ≤ 1048576) :
    Calls Try.prog 15 #[.agg #[.slice a ps.length cap], .int .i64 (k : Int), .agg #[.int .i64 x, .int .i64 y]] w fun e w' => (∃ g cp, e = .returned (.agg #[.slice (some ⟨g, 0, none⟩) ps.length cp]) ∧ w.heap.size ≤ g ∧ ps.length ≤ cp ∧ cp ≤ maxLen ∧ Row w' g (ps.set k (x, y))) ∧ Below w.heap.size w w' := by
  have hB : Below w.heap.size w ((((w.alloc (.cells #[.slice a ps.length cap] 30)).alloc (.cells #[.int .i64 x, .int .i64 y] 34)).alloc (.cells #[.slice none 0 0] 30)).alloc (.cells #[.slice none 0 0] 30)) := (by repeat (first | exact Below.refl _ _ | refine Below.drew ?_ | refine old_alloc ?_ _ | refine old_trans ?_ (by assumption)))
  have K : Cel1 ((((w.alloc (.cells #[.slice a ps.length cap] 30)).alloc (.cells #[.int .i64 x, .int .i64 y] 34)).alloc (.cells #[.slice none 0 0] 30)).alloc (.cells #[.slice none 0 0] 30)) w.heap.size (.slice a ps.length cap) := (((Cel1.made w _ rfl _ _).alloc _).alloc _).alloc _
  have Q : Cel2 ((((w.alloc (.cells #[.slice a ps.length cap] 30)).alloc (.cells #[.int .i64 x, .int .i64 y] 34)).alloc (.cells #[.slice none 0 0] 30)).alloc (.cells #[.slice none 0 0] 30)) (w.heap.size + 1) (.int .i64 x) (.int .i64 y) := ((Cel2.made _ _ (by simp) _ _ _).alloc _).alloc _
  have M : Cel1 ((((w.alloc (.cells #[.slice a ps.length cap] 30)).alloc (.cells #[.int .i64 x, .int .i64 y] 34)).alloc (.cells #[.slice none 0 0] 30)).alloc (.cells #[.slice none 0 0] 30)) (w.heap.size + 1 + 1) (.slice none 0 0) := (Cel1.made _ _ (by simp) _ _).alloc _
  have O : Cel1 ((((w.alloc (.cells #[.slice a ps.length cap] 30)).alloc (.cells #[.int .i64 x, .int .i64 y] 34)).alloc (.cells #[.slice none 0 0] 30)).alloc (.cells #[.slice none 0 0] 30)) (w.heap.size + 1 + 1 + 1) (.slice none 0 0) := Cel1.made _ _ (by simp) _ _
  have R := hR.old hB
  have hsz0 : w.heap.size + 1 + 1 + 1 + 1 ≤ (((((w.alloc (.cells #[.slice a ps.length cap] 30)).alloc (.cells #[.int .i64 x, .int .i64 y] 34)).alloc (.cells #[.slice none 0 0] 30)).alloc (.cells #[.slice none 0 0] 30))).heap.size := by simp
  obtain ⟨b, off, -, -, rfl, hbl, -, -, -, -⟩ := hR.at (k := 0) (by omega)
  obtain ⟨i0, hi, hz0, hz1, hz2⟩ := info_parts infoPair
  have hfin := with_eq ps k x y
  go_enter Try.func15, Try.ntmps15
  go_wp2
  go_loopw [8] (fun i wr => ∃ (j : Nat) (av : Option Addr) (nv cv : Nat), j ≤ ps.length ∧ i = .int .i64 j ∧ Grows wr (w.heap.size + 1 + 1 + 1 + 1) (.slice av nv cv) (madeL j (withX ps k x) (withY ps k y)) ∧ Cel1 wr (w.heap.size + 1 + 1 + 1) (.slice av nv cv) ∧ Cel1 wr w.heap.size (.slice (some ⟨b, off, none⟩) ps.length cap) ∧ Cel2 wr (w.heap.size + 1) (.int .i64 x) (.int .i64 y) ∧ Cel1 wr (w.heap.size + 1 + 1) (.slice none 0 0) ∧ InRow wr (some ⟨b, off, none⟩) ps.length cap ps ∧ w.heap.size + 1 + 1 + 1 + 1 ≤ wr.heap.size ∧ Below w.heap.size w wr) (fun b _ => ps.length - (intOf b).toNat)
  case atStart => exact ⟨0, none, 0, 0, by omega, rfl, Grows.nil _ _, O, K, Q, M, R, hsz0, hB⟩
  case round =>
    clear K M O Q R hB hsz0
    obtain ⟨j, av, nv, cv, hj, rfl, G, O, K, Q, M, hRr, hszr, hb⟩ := hrel
    obtain ⟨k0, k1, k2⟩ := id K
    obtain ⟨o0, o1, o2⟩ := id O
    obtain ⟨q0, q1, q2, q3, q4⟩ := id Q
    have hm := madeL_snoc j (withX ps k x) (withY ps k y)
    by_cases hlt : j < ps.length
    · by_cases hjk : j = k
      · subst hjk
        rw [show withX ps j x j = x by simp [withX], show withY ps j y j = y by simp [withY]] at hm
        have O2 := O.alloc (.cells #[.int .i64 x, .int .i64 y] 34)
        have K2 := K.alloc (.cells #[.int .i64 x, .int .i64 y] 34)
        have M2 := M.alloc (.cells #[.int .i64 x, .int .i64 y] 34)
        have Q2 := Q.alloc (.cells #[.int .i64 x, .int .i64 y] 34)
        have R2 := hRr.alloc (.cells #[.int .i64 x, .int .i64 y] 34)
        have G2 := G.alloc (.cells #[.int .i64 x, .int .i64 y] 34)
        have B2 : Below w.heap.size w (wr.alloc (.cells #[.int .i64 x, .int .i64 y] 34)) := hb.alloc hb.size _
        have cw := cells_two wr wr.heap.size rfl (.int .i64 x) (.int .i64 y) 34
        have hml := madeL_length j (withX ps j x) (withY ps j y)
        go_wp2_with (at_builtin; refine wpList_append_own _ (by rfl) _ _ 28 (by rfl) (w.heap.size + 1 + 1 + 1 + 1) 34 i0 _ 2 16 Try.underlying28 hi hz0 hz1 hz2 rfl (by decide) _ _ _ (by rfl) G2 ⟨wr.heap.size, 0, none⟩ 1 1 [.int .i64 x, .int .i64 y] (by rfl) rfl cw (by simp [Value.oneCell']) (by rw [hml]; unfold maxLen; omega) (by rw [hml]; omega) (by simp; omega) ?_; intro v' w5 hown hgrow _; rw [hml] at hown; obtain ⟨g', cap', rfl⟩ := ownsRow_succ hown; have O5 := O2.kept hgrow (G2.far (by omega)); have o5 := O5.1; have f5 := O5.2.1; have l5 := O5.2.2)
        have G5 : Grows w5 (w.heap.size + 1 + 1 + 1 + 1) (.slice (some ⟨g', 0, none⟩) (j + 1) cap') (madeL (j + 1) (withX ps j x) (withY ps j y)) := by
          rw [hm]
          unfold Grows
          rw [flat_snoc, List.length_append, hml]
          exact hown
        have K5 := K2.kept hgrow (G2.far (by omega))
        have M5 := M2.kept hgrow (G2.far (by omega))
        have Q5 := Q2.kept hgrow (G2.far (by omega))
        have R5 := R2.kept hgrow (fun q e => by cases e; exact G2.far (by show b < _; omega))
        have B5 := B2.grown hgrow B2.size (fun c e => by have := (World.ownsRow.lt G2 c e).1; omega)
        have S5 := hgrow.size
        go_roundw
        case rel => exact ⟨j + 1, _, _, _, by omega, by go_num, G5.set (by omega) _, O5.set _, K5.other _ (by simp <;> omega) _, Q5.other _ _ (by simp <;> omega) _, M5.other _ (by simp <;> omega) _, R5.set _ _ (fun q e => by cases e; simp <;> omega), by simp [World.setCell]; simp at S5; omega, B5.setCell (p := ⟨w.heap.size + 1 + 1 + 1, 0, none⟩) (by simp <;> omega) _⟩
        case measure => simp [intOf]; omega
      · obtain ⟨b1, off1, u, v, ha, -, hx, -, c0, c1⟩ := hRr.at hlt
        obtain ⟨rfl, rfl⟩ : b = b1 ∧ off = off1 := by injection ha with ha; injection ha with h1 h2; exact ⟨h1, h2⟩
        clear ha
        have hne : ((j : Int) == (k : Int)) = false := by simp; omega
        rw [show withX ps k x j = u by unfold withX; rw [if_neg hjk, hx], show withY ps k y j = v by unfold withY; rw [if_neg hjk, hx]] at hm
        have O2 := O.alloc (.cells #[.int .i64 u, .int .i64 v] 34)
        have K2 := K.alloc (.cells #[.int .i64 u, .int .i64 v] 34)
        have M2 := M.alloc (.cells #[.int .i64 u, .int .i64 v] 34)
        have Q2 := Q.alloc (.cells #[.int .i64 u, .int .i64 v] 34)
        have R2 := hRr.alloc (.cells #[.int .i64 u, .int .i64 v] 34)
        have G2 := G.alloc (.cells #[.int .i64 u, .int .i64 v] 34)
        have B2 : Below w.heap.size w (wr.alloc (.cells #[.int .i64 u, .int .i64 v] 34)) := hb.alloc hb.size _
        have cw := cells_two wr wr.heap.size rfl (.int .i64 u) (.int .i64 v) 34
        have hml := madeL_length j (withX ps k x) (withY ps k y)
        have cw : ∀ i z, [Value.int IntKind.i64 u, Value.int IntKind.i64 v][i]? = some z → ((wr.alloc (.cells #[.int .i64 u, .int .i64 v] 34)).drew).cell? ((⟨wr.heap.size, 0, none⟩ : Addr).add i) = some z := cw
        replace O2 := O2.drew
        replace K2 := K2.drew
        replace M2 := M2.drew
        replace Q2 := Q2.drew
        replace R2 := R2.drew
        have G2 : Grows (wr.alloc (.cells #[.int .i64 u, .int .i64 v] 34)).drew (w.heap.size + 1 + 1 + 1 + 1) (.slice av nv cv) (madeL j (withX ps k x) (withY ps k y)) := G2
        replace B2 := Below.drew B2
        have lb : b < wr.heap.size := World.block_lt_of_cell? _ _ c0
        have lb1 := Nat.ne_of_lt lb
        have lb2 := Nat.ne_of_gt lb
        have lk1 := Nat.ne_of_lt k2
        have lk2 := Nat.ne_of_gt k2
        have lo1 := Nat.ne_of_lt o2
        have lo2 := Nat.ne_of_gt o2
        go_wp2_with fail
        go_region_law (refine step_append_lies _ (by rfl) _ _ 28 (by rfl) (w.heap.size + 1 + 1 + 1 + 1) 34 i0 _ 2 16 Try.underlying28 hi hz0 hz1 hz2 rfl (by decide) _ _ _ (by rfl) G2 ⟨wr.heap.size, 0, none⟩ 1 1 [.int .i64 u, .int .i64 v] (by rfl) rfl cw (by simp [Value.oneCell']) (by decide) (by rw [hml]; unfold maxLen; omega) (by rw [hml]; omega) (by simp; omega) _ rfl ?_; intro g' cap' w5 hown hgrow hat hlt5; rw [hml] at hown; have O5 := O2.kept hgrow (G2.far (by omega)); have o5 := O5.1; have f5 := O5.2.1; have l5 := O5.2.2)
        all_goals
          go_wp2
          have G5 : Grows w5 (w.heap.size + 1 + 1 + 1 + 1) (.slice (some ⟨g', 0, none⟩) (j + 1) cap') (madeL (j + 1) (withX ps k x) (withY ps k y)) := by
            rw [hm]
            unfold Grows
            rw [flat_snoc, List.length_append, hml]
            exact hown
          have K5 := K2.kept hgrow (G2.far (by omega))
          have M5 := M2.kept hgrow (G2.far (by omega))
          have Q5 := Q2.kept hgrow (G2.far (by omega))
          have R5 := R2.kept hgrow (fun q e => by cases e; exact G2.far (by show b < _; omega))
          have B5 := B2.grown hgrow B2.size (fun c e => by have := (World.ownsRow.lt G2 c e).1; omega)
          have S5 := hgrow.size
          go_roundw
          case rel => exact ⟨j + 1, _, _, _, by omega, by go_num, G5.set (by omega) _, O5.set _, K5.other _ (by simp <;> omega) _, Q5.other _ _ (by simp <;> omega) _, M5.other _ (by simp <;> omega) _, R5.set _ _ (fun q e => by cases e; simp <;> omega), by simp [World.setCell]; simp at S5; omega, B5.setCell (p := ⟨w.heap.size + 1 + 1 + 1, 0, none⟩) (by simp <;> omega) _⟩
          case measure => simp [intOf]; omega
    · obtain rfl : j = ps.length := by omega
      obtain ⟨g, cap2, hv, hg1, hg2, hg3, hrow⟩ := G.row (by rw [madeL_length]; omega)
      rw [madeL_length] at hv hg2
      rw [hfin] at hrow
      injection hv with e1 e2 e3
      subst e1 e2 e3
      obtain ⟨m0, m1, m2⟩ := id M
      go_wp2
      refine bodyPost_ret (v := .agg #[.slice (some ⟨g, 0, none⟩) ps.length cv]) ?_ rfl ⟨⟨g, cv, rfl, by omega, hg2, hg3, hrow.other ⟨w.heap.size + 1 + 1, 0, none⟩ (by simp <;> omega) _⟩, hb.setCell (p := ⟨w.heap.size + 1 + 1, 0, none⟩) (by simp <;> omega) _⟩
      simp [results, Try.results15, go_sem, m0]
end Go.Proofs.Ytekbhkklaogmnaa

/- Two boxes of one, by parting one coordinate: by the program, for whatever parts a pair. Condition: 2^20 pairs at most. -/
namespace Go.Proofs.Ytekbhkklaogmnaa
open Go.RowKit
set_option linter.unusedVariables false
set_option maxRecDepth 100000

/-- two boxes, each in memory of its own, or nothing -/
def BR2 (n0 : Nat) (w' : World) (e : Ending) (r : Bool) (l1 l2 : List (Int × Int)) : Prop :=
  ∃ av cv av2 cv2, e = .returned (.tuple #[.agg #[.slice av (resL r l1).length cv], .agg #[.slice av2 (resL r l2).length cv2], .bool r]) ∧ OB w' n0 av cv (resL r l1) ∧ OB w' n0 av2 cv2 (resL r l2) ∧ (∀ q q', av = some q → av2 = some q' → q.block ≠ q'.block)
theorem BR2.no (n0 : Nat) (w' : World) (l1 l2 : List (Int × Int)) : BR2 n0 w' (.returned (.tuple #[.agg #[.slice none 0 0], .agg #[.slice none 0 0], .bool false])) false l1 l2 :=
  ⟨none, 0, none, 0, rfl, ⟨fits_nil, Nat.le_refl _, Nat.zero_le _, .inl ⟨rfl, rfl⟩⟩, ⟨fits_nil, Nat.le_refl _, Nat.zero_le _, .inl ⟨rfl, rfl⟩⟩, fun q q' h => by cases h⟩
theorem BR2.yes {n0 : Nat} {w' : World} {l1 l2 : List (Int × Int)} {g c g2 c2 : Nat} (h1 : OB w' n0 (some ⟨g, 0, none⟩) c l1) (h2 : OB w' n0 (some ⟨g2, 0, none⟩) c2 l2) (hn : g ≠ g2) : BR2 n0 w' (.returned (.tuple #[.agg #[.slice (some ⟨g, 0, none⟩) l1.length c], .agg #[.slice (some ⟨g2, 0, none⟩) l2.length c2], .bool true])) true l1 l2 :=
  ⟨_, _, _, _, rfl, h1, h2, fun q q' e e' => by injection e with e; injection e' with e'; subst e e'; exact hn⟩
theorem fits_set {ps : List (Int × Int)} (h : Fits ps) (k : Nat) {x y : Int} (hx : (-9223372036854775808 ≤ x ∧ x ≤ 9223372036854775807) ∧ -9223372036854775808 ≤ y ∧ y ≤ 9223372036854775807) : Fits (ps.set k (x, y)) := by
  intro p hp
  rcases List.mem_or_eq_of_mem_set hp with h1 | h1
  · exact h p h1
  · subst h1; exact hx
def inB (wd at_ : Int) (ps : List (Int × Int)) : Bool := okRow wd ps && decide (0 ≤ at_ ∧ at_ < (ps.length : Int))
def fit4 (x1 y1 x2 y2 : Int) : Prop := ((-9223372036854775808 ≤ x1 ∧ x1 ≤ 9223372036854775807) ∧ -9223372036854775808 ≤ y1 ∧ y1 ≤ 9223372036854775807) ∧ ((-9223372036854775808 ≤ x2 ∧ x2 ≤ 9223372036854775807) ∧ -9223372036854775808 ≤ y2 ∧ y2 ≤ 9223372036854775807)
set_option maxRecDepth 100000 in
set_option maxHeartbeats 4000000 in
theorem iParted (wd at_ : Int) (a : Option Addr) (cap : Nat) (ps : List (Int × Int)) (g : Nat) (caps : Array Value) (r2 : Bool) (x1 y1 x2 y2 : Int) (w : World) (hR : InRow w a ps.length cap ps) (hl : ps.length ≤ 1048576)
    (hE : ∀ args w, (callFunc g args).run Try.prog w = .ok (.enter g args) w)
    (hG : ∀ (k : Nat) (W : World), (k : Int) = at_ → k < ps.length → Below w.heap.size w W → Calls Try.prog g (#[.agg #[.int .i64 (ps.getD k (0, 0)).1, .int .i64 (ps.getD k (0, 0)).2]] ++ caps) W fun e W' => e = .returned (pair2V r2 x1 y1 x2 y2) ∧ Below W.heap.size W W')
    (hf : r2 = true → fit4 x1 y1 x2 y2) :
    Calls Try.prog 17 #[.int .i64 wd, .agg #[.slice a ps.length cap], .int .i64 at_, .func (.func g) #[] caps] w fun e w' => BR2 w.heap.size w' e (inB wd at_ ps && r2) (ps.set at_.toNat (x1, y1)) (ps.set at_.toNat (x2, y2)) ∧ Below w.heap.size w w' := by
  have hlen : ps.length ≤ maxLen := Nat.le_trans hR.2.1 hR.2.2.1
  have hfp := hR.2.2.2.1
  have hB : Below w.heap.size w (((w.alloc (.cells #[.slice a ps.length cap] 30)).alloc (.cells #[.slice none 0 0] 30)).alloc (.cells #[.slice none 0 0] 30)) := (by repeat (first | exact Below.refl _ _ | refine Below.drew ?_ | refine old_alloc ?_ _ | refine old_trans ?_ (by assumption)))
  have K : Cel1 (((w.alloc (.cells #[.slice a ps.length cap] 30)).alloc (.cells #[.slice none 0 0] 30)).alloc (.cells #[.slice none 0 0] 30)) w.heap.size (.slice a ps.length cap) := ((Cel1.made w _ rfl _ _).alloc _).alloc _
  have N1 : Cel1 (((w.alloc (.cells #[.slice a ps.length cap] 30)).alloc (.cells #[.slice none 0 0] 30)).alloc (.cells #[.slice none 0 0] 30)) (w.heap.size + 1) (.slice none 0 0) := (Cel1.made _ _ (by simp) _ _).alloc _
  have N2 : Cel1 (((w.alloc (.cells #[.slice a ps.length cap] 30)).alloc (.cells #[.slice none 0 0] 30)).alloc (.cells #[.slice none 0 0] 30)) (w.heap.size + 1 + 1) (.slice none 0 0) := Cel1.made _ _ (by simp) _ _
  have OK := hd (fun w' (h : Below w.heap.size w w') => iBoxOk wd a ps.length cap ps w' (hR.old h))
  generalize hW0 : (((w.alloc (.cells #[.slice a ps.length cap] 30)).alloc (.cells #[.slice none 0 0] 30)).alloc (.cells #[.slice none 0 0] 30)) = V0 at *
  obtain ⟨k0, k1, k2⟩ := id K
  cases hok : okRow wd ps
  · have e : inB wd at_ ps = false := by unfold inB; rw [hok]; rfl
    rw [e, Bool.false_and]
    rw [hok] at OK
    clear e hok
    go_enter Try.func17, Try.ntmps17
    go_wp2_with fail
    refine (OK.out _ hB).mono ?_
    rintro ev w1 ⟨rfl, hb1⟩
    replace K := K.later hb1
    replace N1 := N1.later hb1
    replace N2 := N2.later hb1
    replace hB := old_trans hB hb1
    clear k0 k1 k2
    obtain ⟨n10, n11, n12⟩ := id N1
    obtain ⟨n20, n21, n22⟩ := id N2
    obtain ⟨k0, k1, k2⟩ := id K
    go_wp2
    have P1 := (N1.set (.slice none 0 0)).aside (w.heap.size + 1 + 1) (by omega) (.slice none 0 0)
    have P2 := (N2.aside (w.heap.size + 1) (by omega) (.slice none 0 0)).set (.slice none 0 0)
    have hBf := Below.aside (Below.aside hB (w.heap.size + 1) (by omega) (.slice none 0 0)) (w.heap.size + 1 + 1) (by omega) (.slice none 0 0)
    refine bodyPost_ret (v := .tuple #[.agg #[.slice none 0 0], .agg #[.slice none 0 0], .bool false]) ?_ rfl ⟨BR2.no _ _ _ _, hBf⟩
    simp [results, Try.results17, go_sem, P1.1, P2.1]
  rw [hok] at OK
  by_cases hin : 0 ≤ at_ ∧ at_ < (ps.length : Int)
  case neg =>
    have e : inB wd at_ ps = false := by unfold inB; rw [hok, decide_eq_false hin]; rfl
    rw [e, Bool.false_and]
    clear e hok
    have hin' : at_ < 0 ∨ (¬ at_ < 0 ∧ at_ ≥ (ps.length : Int)) := by omega
    clear hin
    go_enter Try.func17, Try.ntmps17
    go_wp2_with fail
    refine (OK.out _ hB).mono ?_
    rintro ev w1 ⟨rfl, hb1⟩
    replace K := K.later hb1
    replace N1 := N1.later hb1
    replace N2 := N2.later hb1
    replace hB := old_trans hB hb1
    clear k0 k1 k2
    obtain ⟨n10, n11, n12⟩ := id N1
    obtain ⟨n20, n21, n22⟩ := id N2
    obtain ⟨k0, k1, k2⟩ := id K
    rcases hin' with hin' | ⟨hin1, hin2⟩
    all_goals
      go_wp2
      have P1 := (N1.set (.slice none 0 0)).aside (w.heap.size + 1 + 1) (by omega) (.slice none 0 0)
      have P2 := (N2.aside (w.heap.size + 1) (by omega) (.slice none 0 0)).set (.slice none 0 0)
      have hBf := Below.aside (Below.aside hB (w.heap.size + 1) (by omega) (.slice none 0 0)) (w.heap.size + 1 + 1) (by omega) (.slice none 0 0)
      refine bodyPost_ret (v := .tuple #[.agg #[.slice none 0 0], .agg #[.slice none 0 0], .bool false]) ?_ rfl ⟨BR2.no _ _ _ _, hBf⟩
      simp [results, Try.results17, go_sem, P1.1, P2.1]

  obtain ⟨k, rfl⟩ := Int.eq_ofNat_of_zero_le hin.1
  have hk : k < ps.length := by omega
  have e : inB wd (k : Int) ps = true := by unfold inB; rw [hok, decide_eq_true hin]; rfl
  rw [e, Bool.true_and, Int.toNat_natCast]
  clear e hok
  have hi1 : ¬ (k : Int) < 0 := by omega
  have hi2 : ¬ (k : Int) ≥ (ps.length : Int) := by omega
  have FV := hd (fun W (h : Below w.heap.size w W) => hG k W rfl hk h)
  have R0 := hR.old hB
  obtain ⟨b, off, x, y, rfl, hbl, hx, hxf, c0, c1⟩ := R0.at hk
  rw [hx] at FV
  clear c0 c1 R0 hxf
  cases hr2 : r2
  · rw [hr2] at FV
    go_enter Try.func17, Try.ntmps17
    go_wp2_with fail
    refine (OK.out _ hB).mono ?_
    rintro ev w1 ⟨rfl, hb1⟩
    replace K := K.later hb1
    replace N1 := N1.later hb1
    replace N2 := N2.later hb1
    replace hB := old_trans hB hb1
    obtain ⟨b', off', x', y', e', -, hx', -, c0, c1⟩ := (hR.old hB).at hk
    injection e' with e'; injection e' with e1 e2; subst e1 e2
    rw [hx] at hx'; injection hx' with e1 e2; subst e1 e2
    clear k0 k1 k2
    obtain ⟨k0, k1, k2⟩ := id K
    go_wp2_with fail
    refine (FV.out _ hB).mono ?_
    rintro ev w2 ⟨rfl, hb2⟩
    replace K := K.later hb2
    replace N1 := N1.later hb2
    replace N2 := N2.later hb2
    replace hB := old_trans hB hb2
    clear k0 k1 k2 c0 c1
    obtain ⟨n10, n11, n12⟩ := id N1
    obtain ⟨n20, n21, n22⟩ := id N2
    rw [show pair2V false x1 y1 x2 y2 = .tuple #[.agg #[.int .i64 0, .int .i64 0], .agg #[.int .i64 0, .int .i64 0], .bool false] from rfl]
    have PA := (N1.alloc (.cells #[.int .i64 0, .int .i64 0] 34)).alloc (.cells #[.int .i64 0, .int .i64 0] 34)
    have PB := (N2.alloc (.cells #[.int .i64 0, .int .i64 0] 34)).alloc (.cells #[.int .i64 0, .int .i64 0] 34)
    have hBa := old_alloc (old_alloc hB (.cells #[.int .i64 0, .int .i64 0] 34)) (.cells #[.int .i64 0, .int .i64 0] 34)
    have d1 : w.heap.size + 1 ≠ w2.heap.size := by omega
    have d2 : w.heap.size + 1 ≠ w2.heap.size + 1 := by omega
    have d3 : w.heap.size + 1 + 1 ≠ w2.heap.size := by omega
    have d5 : w.heap.size ≠ w2.heap.size := by omega
    have d6 : w2.heap.size ≠ w.heap.size + 1 := by omega
    have d7 : w2.heap.size ≠ w.heap.size + 1 + 1 := by omega
    have d8 : w2.heap.size ≠ w.heap.size := by omega
    clear d2
    have pc1 := PA.1
    have pf1 := PA.2.1
    have pc2 := PB.1
    have pf2 := PB.2.1
    go_wp2
    have P1 := (PA.set (.slice none 0 0)).aside (w.heap.size + 1 + 1) (by omega) (.slice none 0 0)
    have P2 := (PB.aside (w.heap.size + 1) (by omega) (.slice none 0 0)).set (.slice none 0 0)
    have hBf := Below.aside (Below.aside hBa (w.heap.size + 1) (by omega) (.slice none 0 0)) (w.heap.size + 1 + 1) (by omega) (.slice none 0 0)
    refine bodyPost_ret (v := .tuple #[.agg #[.slice none 0 0], .agg #[.slice none 0 0], .bool false]) ?_ rfl ⟨BR2.no _ _ _ _, hBf⟩
    simp [results, Try.results17, go_sem, P1.1, P2.1]
  · rw [hr2] at FV
    obtain ⟨hf1, hf2⟩ := hf hr2
    have F1 := hd (fits_set hfp k hf1)
    have F2 := hd (fits_set hfp k hf2)
    have B1 := hd (fun W (h : Below w.heap.size w W) => iBoxWith (some ⟨b, off, none⟩) cap k ps x1 y1 W (hR.old h) hk hl)
    have B2 := hd (fun W (h : Below w.heap.size w W) => iBoxWith (some ⟨b, off, none⟩) cap k ps x2 y2 W (hR.old h) hk hl)
    clear hf1 hf2
    go_enter Try.func17, Try.ntmps17
    go_wp2_with fail
    refine (OK.out _ hB).mono ?_
    rintro ev w1 ⟨rfl, hb1⟩
    replace K := K.later hb1
    replace N1 := N1.later hb1
    replace N2 := N2.later hb1
    replace hB := old_trans hB hb1
    obtain ⟨b', off', x', y', e', -, hx', -, c0, c1⟩ := (hR.old hB).at hk
    injection e' with e'; injection e' with e1 e2; subst e1 e2
    rw [hx] at hx'; injection hx' with e1 e2; subst e1 e2
    clear k0 k1 k2
    obtain ⟨k0, k1, k2⟩ := id K
    go_wp2_with fail
    refine (FV.out _ hB).mono ?_
    rintro ev w2 ⟨rfl, hb2⟩
    clear k0 k1 k2 c0 c1
    have K3 := ((K.later hb2).alloc (.cells #[.int .i64 x1, .int .i64 y1] 34)).alloc (.cells #[.int .i64 x2, .int .i64 y2] 34)
    have M1 := ((N1.later hb2).alloc (.cells #[.int .i64 x1, .int .i64 y1] 34)).alloc (.cells #[.int .i64 x2, .int .i64 y2] 34)
    have M2 := ((N2.later hb2).alloc (.cells #[.int .i64 x1, .int .i64 y1] 34)).alloc (.cells #[.int .i64 x2, .int .i64 y2] 34)
    have Q1 := (Cel2.made w2 _ rfl (.int .i64 x1) (.int .i64 y1) 34).alloc (.cells #[.int .i64 x2, .int .i64 y2] 34)
    have Q2 := Cel2.made (w2.alloc (.cells #[.int .i64 x1, .int .i64 y1] 34)) (w2.heap.size + 1) (by simp) (.int .i64 x2) (.int .i64 y2) 34
    have hB3 := old_alloc (old_alloc (old_trans hB hb2) (.cells #[.int .i64 x1, .int .i64 y1] 34)) (.cells #[.int .i64 x2, .int .i64 y2] 34)
    rw [show pair2V true x1 y1 x2 y2 = .tuple #[.agg #[.int .i64 x1, .int .i64 y1], .agg #[.int .i64 x2, .int .i64 y2], .bool true] from rfl]
    have m1 := N1.later hb2
    have m2 := N2.later hb2
    have m1l := m1.2.2
    have m2l := m2.2.2
    obtain ⟨k0, k1, k2⟩ := id (K.later hb2)
    have d1 : w.heap.size + 1 ≠ w2.heap.size := by omega
    have d3 : w.heap.size + 1 + 1 ≠ w2.heap.size := by omega
    have d5 : w.heap.size ≠ w2.heap.size := by omega
    have d6 : w2.heap.size ≠ w.heap.size + 1 := by omega
    have d7 : w2.heap.size ≠ w.heap.size + 1 + 1 := by omega
    have d8 : w2.heap.size ≠ w.heap.size := by omega
    clear K N1 N2 hB m1 m2
    go_wp2_with fail
    generalize hW3 : (w2.alloc (.cells #[.int .i64 x1, .int .i64 y1] 34)).alloc (.cells #[.int .i64 x2, .int .i64 y2] 34) = W3 at *
    have s3 : W3.heap.size = w2.heap.size + 1 + 1 := by rw [← hW3]; simp
    clear hW3 k0 k1 k2
    obtain ⟨k0, k1, k2⟩ := id K3
    obtain ⟨q0, q1, q2, q3, q4⟩ := id Q1
    obtain ⟨r0, r1, r2, r3, r4⟩ := id Q2
    obtain ⟨u0, u1, u2⟩ := id M1
    obtain ⟨v0, v1, v2⟩ := id M2
    go_region_held3 (fun w' => w'.cell? ⟨w.heap.size, 0, none⟩ = some (.slice (some ⟨b, off, none⟩) ps.length cap) ∧ w'.cell? ⟨w2.heap.size, 0, none⟩ = some (.int .i64 x1) ∧ w'.cell? ⟨w2.heap.size, 1, none⟩ = some (.int .i64 y1) ∧ w'.cell? ⟨w2.heap.size + 1, 0, none⟩ = some (.int .i64 x2) ∧ w'.cell? ⟨w2.heap.size + 1, 1, none⟩ = some (.int .i64 y2)) (go_keep) (first | (go_at_call_of 26 (Value.agg #[.int .i64 x1, .int .i64 y1]); refine (B1.out _ (Below.drew hB3)).mono ?_; rintro ev w4 ⟨⟨g1, rfl, gg1, G1⟩, hb4⟩; have K4 := K3.drew.later hb4; have Q14 := Q1.drew.later hb4; have Q24 := Q2.drew.later hb4; have M14 := M1.drew.later hb4; have M24 := M2.drew.later hb4; have hB4 := old_trans (Below.drew hB3) hb4; obtain ⟨k40, k41, k42⟩ := id K4; obtain ⟨q40, q41, q42, q43, q44⟩ := id Q14; obtain ⟨r40, r41, r42, r43, r44⟩ := id Q24) | (go_at_call_of 26 (Value.agg #[.int .i64 x2, .int .i64 y2]); refine (B2.out _ hB4).mono ?_; rintro ev w5 ⟨⟨g2, rfl, gg2, G2⟩, hb5⟩; have K5 := K4.later hb5; have Q15 := Q14.later hb5; have Q25 := Q24.later hb5; have M15 := M14.later hb5; have M25 := M24.later hb5; have hB5 := old_trans hB4 hb5; obtain ⟨k50, k51, k52⟩ := id K5; obtain ⟨q50, q51, q52, q53, q54⟩ := id Q15; obtain ⟨r50, r51, r52, r53, r54⟩ := id Q25; obtain ⟨u50, u51, u52⟩ := id M15; obtain ⟨v50, v51, v52⟩ := id M25; have kz := ((K5.aside (w.heap.size + 1) (by omega) (.slice (some ⟨g1, 0, none⟩) ps.length ps.length)).aside (w.heap.size + 1 + 1) (by omega) (.slice (some ⟨g2, 0, none⟩) ps.length ps.length)).1))
    all_goals
      have s4 := hb4.size
      have O1 : OB w5 w.heap.size (some ⟨g1, 0, none⟩) ps.length (ps.set k (x1, y1)) := ⟨F1.out, by simp, hlen, .inr ⟨g1, rfl, by simp at gg1; omega, G1.old hb5⟩⟩
      have O2 : OB w5 w.heap.size (some ⟨g2, 0, none⟩) ps.length (ps.set k (x2, y2)) := ⟨F2.out, by simp, hlen, .inr ⟨g2, rfl, by simp at gg1 gg2; omega, G2⟩⟩
      have hg1 : w.heap.size + 1 + 1 < g1 := by simp at gg1; omega
      have hg1' := G1.1
      have hg2 : g1 < g2 := by omega
      have O1' := (O1.set (w.heap.size + 1) (fun q e => by injection e with e; subst e; show g1 ≠ _; omega) (.slice (some ⟨g1, 0, none⟩) ps.length ps.length)).set (w.heap.size + 1 + 1) (fun q e => by injection e with e; subst e; show g1 ≠ _; omega) (.slice (some ⟨g2, 0, none⟩) ps.length ps.length)
      have O2' := (O2.set (w.heap.size + 1) (fun q e => by injection e with e; subst e; show g2 ≠ _; omega) (.slice (some ⟨g1, 0, none⟩) ps.length ps.length)).set (w.heap.size + 1 + 1) (fun q e => by injection e with e; subst e; show g2 ≠ _; omega) (.slice (some ⟨g2, 0, none⟩) ps.length ps.length)
      have P1 := (M15.set (.slice (some ⟨g1, 0, none⟩) ps.length ps.length)).aside (w.heap.size + 1 + 1) (by omega) (.slice (some ⟨g2, 0, none⟩) ps.length ps.length)
      have P2 := (M25.aside (w.heap.size + 1) (by omega) (.slice (some ⟨g1, 0, none⟩) ps.length ps.length)).set (.slice (some ⟨g2, 0, none⟩) ps.length ps.length)
      have hBf := Below.aside (Below.aside hB5 (w.heap.size + 1) (by omega) (.slice (some ⟨g1, 0, none⟩) ps.length ps.length)) (w.heap.size + 1 + 1) (by omega) (.slice (some ⟨g2, 0, none⟩) ps.length ps.length)
      have hY := BR2.yes O1' O2' (by omega)
      rw [List.length_set, List.length_set] at hY
      go_wp2
      refine bodyPost_ret (v := .tuple #[.agg #[.slice (some ⟨g1, 0, none⟩) ps.length ps.length], .agg #[.slice (some ⟨g2, 0, none⟩) ps.length ps.length], .bool true]) ?_ rfl ⟨hY, hBf⟩
      simp [results, Try.results17, go_sem, P1.1, P2.1]
end Go.Proofs.Ytekbhkklaogmnaa

/- Two boxes of one, by halving one coordinate: by the specification and by the program. Condition: 2^20 pairs at most. -/
namespace Go.Proofs.Ytekbhkklaogmnaa
open Go.RowKit
set_option linter.unusedVariables false
set_option maxRecDepth 100000

theorem BR2.stored {n0 n1 : Nat} {w' : World} {av av2 : Option Addr} {cv cv2 : Nat} {l1 l2 : List (Int × Int)} (h1 : OB w' n1 av cv l1) (h2 : OB w' n1 av2 cv2 l2) (hn : n0 ≤ n1) (b b' : Nat) (hb : b < n1) (hb' : b' < n1) (v v' : Value) : OB ((w'.setCell ⟨b, 0, none⟩ v).setCell ⟨b', 0, none⟩ v') n0 av cv l1 ∧ OB ((w'.setCell ⟨b, 0, none⟩ v).setCell ⟨b', 0, none⟩ v') n0 av2 cv2 l2 := by
  have g1 := h1.ge
  have g2 := h2.ge
  exact ⟨((h1.mono hn).set b (fun q e => by have := g1 q e; omega) v).set b' (fun q e => by have := g1 q e; omega) v', ((h2.mono hn).set b (fun q e => by have := g2 q e; omega) v).set b' (fun q e => by have := g2 q e; omega) v'⟩
def splX (ps : List (Int × Int)) (at_ : Int) : Int := (ps.getD at_.toNat (0, 0)).1
def splY (ps : List (Int × Int)) (at_ : Int) : Int := (ps.getD at_.toNat (0, 0)).2
theorem twin_sym {av av2 : Option Addr} (h : ∀ q q', av = some q → av2 = some q' → q.block ≠ q'.block) : ∀ q q', av2 = some q → av = some q' → q.block ≠ q'.block := fun q q' e e' h' => h q' q e' e h'.symm
theorem twin_ne {av av2 : Option Addr} (h : ∀ q q', av = some q → av2 = some q' → q.block ≠ q'.block) : ∀ q, av = some q → some q.block ≠ ownB av2 := by
  intro q e h'
  unfold ownB at h'
  cases av2 with
  | none => simp at h'
  | some q' => simp at h'; exact h q q' e rfl h'
theorem fits_getD {ps : List (Int × Int)} (h : Fits ps) (k : Nat) : (-9223372036854775808 ≤ (ps.getD k (0, 0)).1 ∧ (ps.getD k (0, 0)).1 ≤ 9223372036854775807) ∧ -9223372036854775808 ≤ (ps.getD k (0, 0)).2 ∧ (ps.getD k (0, 0)).2 ≤ 9223372036854775807 := by
  by_cases hk : k < ps.length
  · exact fits_at h hk
  · rw [List.getD_eq_getElem?_getD, List.getElem?_eq_none (by omega)]
    exact ⟨⟨by decide, by decide⟩, by decide, by decide⟩
end Go.Proofs.Ytekbhkklaogmnaa
