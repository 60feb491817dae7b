/- Stores into a new variable leave the boxes and rows that lay ahead. No condition. -/
import Derived.Test.YtpnfkigeagbhpaaPK17
import Derived.Laws.CopyRow
import Derived.Deep.WholeRow
import Derived.Deep.AppendLies
import Derived.Deep.RegionHeld3
import Derived.Deep.RegionLaw
namespace Go.Proofs.Ytpnfkigeagbhpaa
open Go.RowKit
set_option linter.unusedVariables false
set_option maxRecDepth 100000

theorem OB.mono {w : World} {b b' cv : Nat} {av : Option Addr} {ps : List (Int × Int)} (h : OB w b av cv ps) (hb : b' ≤ b) : OB w b' av cv ps := by
  obtain ⟨h1, h2, h3, h4 | ⟨g, h4, h5, h6⟩⟩ := h
  · exact ⟨h1, h2, h3, .inl h4⟩
  · exact ⟨h1, h2, h3, .inr ⟨g, h4, Nat.le_trans hb h5, h6⟩⟩
theorem OB.set {w : World} {base cv : Nat} {av : Option Addr} {ps : List (Int × Int)} (h : OB w base av cv ps) (b : Nat) (hne : ∀ q, av = some q → q.block ≠ b) (v : Value) : OB (w.setCell ⟨b, 0, none⟩ v) base av cv ps := by
  obtain ⟨h1, h2, h3, h4 | ⟨g, h4, h5, h6⟩⟩ := h
  · exact ⟨h1, h2, h3, .inl h4⟩
  · exact ⟨h1, h2, h3, .inr ⟨g, h4, h5, h6.other ⟨b, 0, none⟩ (hne _ h4) v⟩⟩
theorem Cel1.aside {w : World} {c : Nat} {x : Value} (h : Cel1 w c x) (b : Nat) (hne : c ≠ b) (y : Value) : Cel1 (w.setCell ⟨b, 0, none⟩ y) c x := h.other ⟨b, 0, none⟩ hne y
theorem Below.aside {n : Nat} {w0 w : World} (h : Below n w0 w) (b : Nat) (hb : n ≤ b) (v : Value) : Below n w0 (w.setCell ⟨b, 0, none⟩ v) := h.setCell (p := ⟨b, 0, none⟩) hb v
end Go.Proofs.Ytpnfkigeagbhpaa

/- A new box with another pair at one coordinate: by the program (make, copy, store) and by the specification (append). Conditions: 2^20 pairs at most. -/
namespace Go.Proofs.Ytpnfkigeagbhpaa
open Go.RowKit
set_option linter.unusedVariables false
set_option maxRecDepth 100000

theorem run_copy_two {P : Program} (w : World) (dT sT ty elem : TypeId) (g dCap : Nat) (a : Addr) (n sCap : Nat) (cur : Array Value) (t : TypeId) (cs : List Value)
    (hu : P.underlying dT = some (.slice elem)) (hs : (P.info? elem).map (·.size) = some 2)
    (hg : w.heap[g]? = some (.cells cur t (0, 0))) (hn : cs.length = n * 2) (hc : cur.size = n * 2)
    (hsrc : ∀ j v, cs[j]? = some v → w.cell? (a.add j) = some v) (h1 : ∀ v ∈ cs, v.oneCell' = true) :
    (Builtin.copy_ #[dT, sT] ty #[.slice (some ⟨g, 0, none⟩) n dCap, .slice (some a) n sCap]).run P w = .ok (goInt n) (w.setRow g cs.toArray) := by
  have hl := run_loadCells_list (P := P) w a cs hsrc
  have hst := run_storeCells_at P g 0 t cs 0 cur w hg (by rw [hn, hc]; omega) h1
  have hd : cur.toList.drop (0 + 0 + cs.length) = [] := by
    apply List.drop_eq_nil_of_le
    rw [Array.length_toList, hc, hn]; omega
  rw [hd] at hst
  cases hq : P.info? elem with
  | none => simp [hq] at hs
  | some i =>
    have hi : i.size = 2 := by simpa [hq] using hs
    simp at hst
    simp [Builtin.copy_, run_underlying hu, Builtin.lenOf, Builtin.firstCells, sizeOf, typeInfo, hq, hi, ← hn, hl, hst]
theorem flat_one (ps : List (Int × Int)) : ∀ v ∈ flat ps, v.oneCell' = true := by
  intro v hv
  unfold flat at hv
  obtain ⟨p, -, hp⟩ := List.mem_flatMap.1 hv
  simp at hp
  rcases hp with rfl | rfl <;> rfl
theorem InRow.src {w : World} {b off len cap : Nat} {ps : List (Int × Int)} (h : InRow w (some ⟨b, off, none⟩) len cap ps) (h0 : 0 < len) : ∀ j v, (flat ps)[j]? = some v → w.cell? ((⟨b, off, none⟩ : Addr).add j) = some v := by
  intro j v hj
  have hl := h.1
  have hlt : j < ps.length * 2 := by
    have := (List.getElem?_eq_some_iff.1 hj).1
    rw [flat_length] at this; exact this
  have ad : (⟨b, off, none⟩ : Addr).add j = ⟨b, off + j, none⟩ := by
    by_cases h : j = 0
    · subst h; simp [Addr.add]
    · simp [Addr.add, h]
  rw [ad]
  rcases h.2.2.2.2 with h5 | ⟨b', off', e, -, hc⟩
  · omega
  obtain ⟨rfl, rfl⟩ : b = b' ∧ off = off' := by injection e with e; injection e with h1 h2; exact ⟨h1, h2⟩
  have hc2 := hc (j / 2) (by omega)
  have f := flat_get ps (j / 2) (by omega)
  by_cases hp : j % 2 = 0
  · have ej : j / 2 * 2 = j := by omega
    rw [ej] at hc2 f
    rw [hc2.1, ← f.1, hj]
  · have ej : j / 2 * 2 + 1 = j := by omega
    rw [ej] at hc2 f
    rw [hc2.2, ← f.2, hj]
theorem Row.flat (w : World) (ps : List (Int × Int)) (t : TypeId) : Row (w.alloc (.cells (flat ps).toArray t)) w.heap.size ps := by
  refine ⟨by simp, fun i hi => ?_⟩
  have f := flat_get ps i hi
  exact ⟨⟨by simp [f.1], by simp [f.2]⟩, by simp, by simp⟩

set_option maxHeartbeats 4000000 in
theorem iBoxWith (a : Option Addr) (cap k : Nat) (ps : List (Int × Int)) (x y : Int) (w : World) (hR : InRow w a ps.length cap ps) (hk : k < ps.length) (hl : ps.length ≤ 1048576) :
    Calls Try.prog 80 #[.agg #[.slice a ps.length cap], .int .i64 (k : Int), .agg #[.int .i64 x, .int .i64 y]] w fun e w' => (∃ g, e = .returned (.agg #[.slice (some ⟨g, 0, none⟩) ps.length ps.length]) ∧ w.heap.size ≤ g ∧ Row w' g (ps.set k (x, y))) ∧ Below w.heap.size w w' := by
  have hB : Below w.heap.size w (((w.alloc (.cells #[.slice a ps.length cap] 25)).alloc (.cells #[.int .i64 x, .int .i64 y] 42)).alloc (.cells #[.slice none 0 0] 25)) := (by repeat (first | exact Below.refl _ _ | refine Below.drew ?_ | refine old_alloc ?_ _ | refine old_trans ?_ (by assumption)))
  have K : Cel1 (((w.alloc (.cells #[.slice a ps.length cap] 25)).alloc (.cells #[.int .i64 x, .int .i64 y] 42)).alloc (.cells #[.slice none 0 0] 25)) w.heap.size (.slice a ps.length cap) := ((Cel1.made w _ rfl _ _).alloc _).alloc _
  have Q : Cel2 (((w.alloc (.cells #[.slice a ps.length cap] 25)).alloc (.cells #[.int .i64 x, .int .i64 y] 42)).alloc (.cells #[.slice none 0 0] 25)) (w.heap.size + 1) (.int .i64 x) (.int .i64 y) := (Cel2.made _ _ (by simp) _ _ _).alloc _
  have O : Cel1 (((w.alloc (.cells #[.slice a ps.length cap] 25)).alloc (.cells #[.int .i64 x, .int .i64 y] 42)).alloc (.cells #[.slice none 0 0] 25)) (w.heap.size + 1 + 1) (.slice none 0 0) := Cel1.made _ _ (by simp) _ _
  have R := hR.old hB
  obtain ⟨b, off, -, -, rfl, hbl, -, -, -, -⟩ := R.at (k := 0) (by omega)
  have hmk := mkPairs (((w.alloc (.cells #[.slice (some ⟨b, off, none⟩) ps.length cap] 25)).alloc (.cells #[.int .i64 x, .int .i64 y] 42)).alloc (.cells #[.slice none 0 0] 25)) ps.length hl
  have hrow := Row.flat (((w.alloc (.cells #[.slice (some ⟨b, off, none⟩) ps.length cap] 25)).alloc (.cells #[.int .i64 x, .int .i64 y] 42)).alloc (.cells #[.slice none 0 0] 25)) ps 42
  have hsz : ((((w.alloc (.cells #[.slice (some ⟨b, off, none⟩) ps.length cap] 25)).alloc (.cells #[.int .i64 x, .int .i64 y] 42)).alloc (.cells #[.slice none 0 0] 25))).heap.size = w.heap.size + 1 + 1 + 1 := by simp
  have hcp := run_copy_two (P := Try.prog) ((((w.alloc (.cells #[.slice (some ⟨b, off, none⟩) ps.length cap] 25)).alloc (.cells #[.int .i64 x, .int .i64 y] 42)).alloc (.cells #[.slice none 0 0] 25)).alloc (.cells (madeCells #[.int .i64 0, .int .i64 0] (ps.length * 2)) 42)) 23 23 3 42 _ ps.length ⟨b, off, none⟩ ps.length cap _ 42 (flat ps) Try.underlying23 (by kernel_rfl) (World.alloc_heap_new _ _) (flat_length ps) (size_madeCells _ _) ((R.alloc _).src (by omega)) (flat_one ps)
  rw [World.setRow_alloc_new] at hcp
  have K1 := K.alloc (.cells (madeCells #[.int .i64 0, .int .i64 0] (ps.length * 2)) 42)
  have Q1 := Q.alloc (.cells (madeCells #[.int .i64 0, .int .i64 0] (ps.length * 2)) 42)
  have K2 := K.alloc (.cells (flat ps).toArray 42)
  have Q2 := Q.alloc (.cells (flat ps).toArray 42)
  have O2 := O.alloc (.cells (flat ps).toArray 42)
  have B2 := old_alloc hB (.cells (flat ps).toArray 42)
  rw [hsz] at hmk hcp hrow
  generalize (((w.alloc (.cells #[.slice (some ⟨b, off, none⟩) ps.length cap] 25)).alloc (.cells #[.int .i64 x, .int .i64 y] 42)).alloc (.cells #[.slice none 0 0] 25)).alloc (.cells (madeCells #[.int .i64 0, .int .i64 0] (ps.length * 2)) 42) = W4 at *
  generalize (((w.alloc (.cells #[.slice (some ⟨b, off, none⟩) ps.length cap] 25)).alloc (.cells #[.int .i64 x, .int .i64 y] 42)).alloc (.cells #[.slice none 0 0] 25)).alloc (.cells (flat ps).toArray 42) = W5 at *
  clear K Q O
  obtain ⟨k0, k1, k2⟩ := id K1
  obtain ⟨q0, q1, q2, q3, q4⟩ := id Q2
  obtain ⟨o0, o1, o2⟩ := id O2
  obtain ⟨x', y', -, d0, d1, d2, d3⟩ := hrow.at hk
  have hst := hrow.set k hk x y
  go_enter Try.func80, Try.ntmps80
  go_wp2
  refine bodyPost_ret (v := .agg #[.slice (some ⟨w.heap.size + 1 + 1 + 1, 0, none⟩) ps.length ps.length]) ?_ rfl ⟨⟨_, rfl, by omega, hst.other ⟨w.heap.size + 1 + 1, 0, none⟩ (by simp) _⟩, ((B2.setCell (p := ⟨w.heap.size + 1 + 1 + 1, k * 2, none⟩) (by simp; omega) _).setCell (p := ⟨w.heap.size + 1 + 1 + 1, k * 2 + 1, none⟩) (by simp; omega) _).setCell (p := ⟨w.heap.size + 1 + 1, 0, none⟩) (by simp; omega) _⟩
  simp [results, Try.results80, go_sem, o0]
end Go.Proofs.Ytpnfkigeagbhpaa

/- A new box with another pair at one coordinate, by the specification's loop over append. Conditions: 2^20 pairs at most. -/
namespace Go.Proofs.Ytpnfkigeagbhpaa
open Go.RowKit
set_option linter.unusedVariables false
set_option maxRecDepth 100000

theorem Cel2.kept {w w' : World} {c : Nat} {x y : Value} {row : Option Nat} (h : Cel2 w c x y) (g : w.grownBy w' row) (hne : some c ≠ row) : Cel2 w' c x y := by
  obtain ⟨h1, h2, h3, h4, h5⟩ := h
  have e := g.block c h5 hne
  exact ⟨(World.cell?_of_block (a := ⟨c, 0, none⟩) e).trans h1, (World.cell?_of_block (a := ⟨c, 1, none⟩) e).trans h2, (World.frozen?_of_block (a := ⟨c, 0, none⟩) e).trans h3, (World.frozen?_of_block (a := ⟨c, 1, none⟩) e).trans h4, Nat.lt_of_lt_of_le h5 g.size⟩
def withX (ps : List (Int × Int)) (k : Nat) (x : Int) (i : Nat) : Int := if i = k then x else (ps.getD i (0, 0)).1
def withY (ps : List (Int × Int)) (k : Nat) (y : Int) (i : Nat) : Int := if i = k then y else (ps.getD i (0, 0)).2
theorem with_eq (ps : List (Int × Int)) (k : Nat) (x y : Int) : madeL ps.length (withX ps k x) (withY ps k y) = ps.set k (x, y) := by
  apply List.ext_getElem
  · simp [madeL]
  · intro i h1 h2
    have hi : i < ps.length := by simpa [madeL] using h1
    by_cases e : i = k
    · subst e; simp [madeL, withX, withY]
    · simp [madeL, withX, withY, e, Ne.symm e, List.getD_eq_getElem?_getD, hi]

set_option maxRecDepth 100000 in
set_option maxHeartbeats 4000000 in
theorem sWith (a : Option Addr) (cap k : Nat) (ps : List (Int × Int)) (x y : Int) (w : World) (hR : InRow w a ps.length cap ps) (hk : k < ps.length) (hl : ps.length ≤ 1048576) :
    Calls Try.prog 56 #[.agg #[.slice a ps.length cap], .int .i64 (k : Int), .agg #[.int .i64 x, .int .i64 y]] w fun e w' => (∃ g cp, e = .returned (.agg #[.slice (some ⟨g, 0, none⟩) ps.length cp]) ∧ w.heap.size ≤ g ∧ ps.length ≤ cp ∧ cp ≤ maxLen ∧ Row w' g (ps.set k (x, y))) ∧ Below w.heap.size w w' := by
  have hB : Below w.heap.size w ((((w.alloc (.cells #[.slice a ps.length cap] 25)).alloc (.cells #[.int .i64 x, .int .i64 y] 42)).alloc (.cells #[.slice none 0 0] 25)).alloc (.cells #[.slice none 0 0] 25)) := (by repeat (first | exact Below.refl _ _ | refine Below.drew ?_ | refine old_alloc ?_ _ | refine old_trans ?_ (by assumption)))
  have K : Cel1 ((((w.alloc (.cells #[.slice a ps.length cap] 25)).alloc (.cells #[.int .i64 x, .int .i64 y] 42)).alloc (.cells #[.slice none 0 0] 25)).alloc (.cells #[.slice none 0 0] 25)) w.heap.size (.slice a ps.length cap) := (((Cel1.made w _ rfl _ _).alloc _).alloc _).alloc _
  have Q : Cel2 ((((w.alloc (.cells #[.slice a ps.length cap] 25)).alloc (.cells #[.int .i64 x, .int .i64 y] 42)).alloc (.cells #[.slice none 0 0] 25)).alloc (.cells #[.slice none 0 0] 25)) (w.heap.size + 1) (.int .i64 x) (.int .i64 y) := ((Cel2.made _ _ (by simp) _ _ _).alloc _).alloc _
  have M : Cel1 ((((w.alloc (.cells #[.slice a ps.length cap] 25)).alloc (.cells #[.int .i64 x, .int .i64 y] 42)).alloc (.cells #[.slice none 0 0] 25)).alloc (.cells #[.slice none 0 0] 25)) (w.heap.size + 1 + 1) (.slice none 0 0) := (Cel1.made _ _ (by simp) _ _).alloc _
  have O : Cel1 ((((w.alloc (.cells #[.slice a ps.length cap] 25)).alloc (.cells #[.int .i64 x, .int .i64 y] 42)).alloc (.cells #[.slice none 0 0] 25)).alloc (.cells #[.slice none 0 0] 25)) (w.heap.size + 1 + 1 + 1) (.slice none 0 0) := Cel1.made _ _ (by simp) _ _
  have R := hR.old hB
  have hsz0 : w.heap.size + 1 + 1 + 1 + 1 ≤ (((((w.alloc (.cells #[.slice a ps.length cap] 25)).alloc (.cells #[.int .i64 x, .int .i64 y] 42)).alloc (.cells #[.slice none 0 0] 25)).alloc (.cells #[.slice none 0 0] 25))).heap.size := by simp
  obtain ⟨b, off, -, -, rfl, hbl, -, -, -, -⟩ := hR.at (k := 0) (by omega)
  obtain ⟨i0, hi, hz0, hz1, hz2⟩ := info_parts infoPair
  have hfin := with_eq ps k x y
  go_enter Try.func56, Try.ntmps56
  go_wp2
  go_loopw [8] (fun i wr => ∃ (j : Nat) (av : Option Addr) (nv cv : Nat), j ≤ ps.length ∧ i = .int .i64 j ∧ Grows wr (w.heap.size + 1 + 1 + 1 + 1) (.slice av nv cv) (madeL j (withX ps k x) (withY ps k y)) ∧ Cel1 wr (w.heap.size + 1 + 1 + 1) (.slice av nv cv) ∧ Cel1 wr w.heap.size (.slice (some ⟨b, off, none⟩) ps.length cap) ∧ Cel2 wr (w.heap.size + 1) (.int .i64 x) (.int .i64 y) ∧ Cel1 wr (w.heap.size + 1 + 1) (.slice none 0 0) ∧ InRow wr (some ⟨b, off, none⟩) ps.length cap ps ∧ w.heap.size + 1 + 1 + 1 + 1 ≤ wr.heap.size ∧ Below w.heap.size w wr) (fun b _ => ps.length - (intOf b).toNat)
  case atStart => exact ⟨0, none, 0, 0, by omega, rfl, Grows.nil _ _, O, K, Q, M, R, hsz0, hB⟩
  case round =>
    clear K M O Q R hB hsz0
    obtain ⟨j, av, nv, cv, hj, rfl, G, O, K, Q, M, hRr, hszr, hb⟩ := hrel
    obtain ⟨k0, k1, k2⟩ := id K
    obtain ⟨o0, o1, o2⟩ := id O
    obtain ⟨q0, q1, q2, q3, q4⟩ := id Q
    have hm := madeL_snoc j (withX ps k x) (withY ps k y)
    by_cases hlt : j < ps.length
    · by_cases hjk : j = k
      · subst hjk
        rw [show withX ps j x j = x by simp [withX], show withY ps j y j = y by simp [withY]] at hm
        have O2 := O.alloc (.cells #[.int .i64 x, .int .i64 y] 42)
        have K2 := K.alloc (.cells #[.int .i64 x, .int .i64 y] 42)
        have M2 := M.alloc (.cells #[.int .i64 x, .int .i64 y] 42)
        have Q2 := Q.alloc (.cells #[.int .i64 x, .int .i64 y] 42)
        have R2 := hRr.alloc (.cells #[.int .i64 x, .int .i64 y] 42)
        have G2 := G.alloc (.cells #[.int .i64 x, .int .i64 y] 42)
        have B2 : Below w.heap.size w (wr.alloc (.cells #[.int .i64 x, .int .i64 y] 42)) := hb.alloc hb.size _
        have cw := cells_two wr wr.heap.size rfl (.int .i64 x) (.int .i64 y) 42
        have hml := madeL_length j (withX ps j x) (withY ps j y)
        go_wp2_with (at_builtin; refine wpList_append_own _ (by rfl) _ _ 23 (by rfl) (w.heap.size + 1 + 1 + 1 + 1) 42 i0 _ 2 16 Try.underlying23 hi hz0 hz1 hz2 rfl (by decide) _ _ _ (by rfl) G2 ⟨wr.heap.size, 0, none⟩ 1 1 [.int .i64 x, .int .i64 y] (by rfl) rfl cw (by simp [Value.oneCell']) (by rw [hml]; unfold maxLen; omega) (by rw [hml]; omega) (by simp; omega) ?_; intro v' w5 hown hgrow _; rw [hml] at hown; obtain ⟨g', cap', rfl⟩ := ownsRow_succ hown; have O5 := O2.kept hgrow (G2.far (by omega)); have o5 := O5.1; have f5 := O5.2.1; have l5 := O5.2.2)
        have G5 : Grows w5 (w.heap.size + 1 + 1 + 1 + 1) (.slice (some ⟨g', 0, none⟩) (j + 1) cap') (madeL (j + 1) (withX ps j x) (withY ps j y)) := by
          rw [hm]
          unfold Grows
          rw [flat_snoc, List.length_append, hml]
          exact hown
        have K5 := K2.kept hgrow (G2.far (by omega))
        have M5 := M2.kept hgrow (G2.far (by omega))
        have Q5 := Q2.kept hgrow (G2.far (by omega))
        have R5 := R2.kept hgrow (fun q e => by cases e; exact G2.far (by show b < _; omega))
        have B5 := B2.grown hgrow B2.size (fun c e => by have := (World.ownsRow.lt G2 c e).1; omega)
        have S5 := hgrow.size
        go_roundw
        case rel => exact ⟨j + 1, _, _, _, by omega, by go_num, G5.set (by omega) _, O5.set _, K5.other _ (by simp <;> omega) _, Q5.other _ _ (by simp <;> omega) _, M5.other _ (by simp <;> omega) _, R5.set _ _ (fun q e => by cases e; simp <;> omega), by simp [World.setCell]; simp at S5; omega, B5.setCell (p := ⟨w.heap.size + 1 + 1 + 1, 0, none⟩) (by simp <;> omega) _⟩
        case measure => simp [intOf]; omega
      · obtain ⟨b1, off1, u, v, ha, -, hx, -, c0, c1⟩ := hRr.at hlt
        obtain ⟨rfl, rfl⟩ : b = b1 ∧ off = off1 := by injection ha with ha; injection ha with h1 h2; exact ⟨h1, h2⟩
        clear ha
        have hne : ((j : Int) == (k : Int)) = false := by simp; omega
        rw [show withX ps k x j = u by unfold withX; rw [if_neg hjk, hx], show withY ps k y j = v by unfold withY; rw [if_neg hjk, hx]] at hm
        have O2 := O.alloc (.cells #[.int .i64 u, .int .i64 v] 42)
        have K2 := K.alloc (.cells #[.int .i64 u, .int .i64 v] 42)
        have M2 := M.alloc (.cells #[.int .i64 u, .int .i64 v] 42)
        have Q2 := Q.alloc (.cells #[.int .i64 u, .int .i64 v] 42)
        have R2 := hRr.alloc (.cells #[.int .i64 u, .int .i64 v] 42)
        have G2 := G.alloc (.cells #[.int .i64 u, .int .i64 v] 42)
        have B2 : Below w.heap.size w (wr.alloc (.cells #[.int .i64 u, .int .i64 v] 42)) := hb.alloc hb.size _
        have cw := cells_two wr wr.heap.size rfl (.int .i64 u) (.int .i64 v) 42
        have hml := madeL_length j (withX ps k x) (withY ps k y)
        have cw : ∀ i z, [Value.int IntKind.i64 u, Value.int IntKind.i64 v][i]? = some z → ((wr.alloc (.cells #[.int .i64 u, .int .i64 v] 42)).drew).cell? ((⟨wr.heap.size, 0, none⟩ : Addr).add i) = some z := cw
        replace O2 := O2.drew
        replace K2 := K2.drew
        replace M2 := M2.drew
        replace Q2 := Q2.drew
        replace R2 := R2.drew
        have G2 : Grows (wr.alloc (.cells #[.int .i64 u, .int .i64 v] 42)).drew (w.heap.size + 1 + 1 + 1 + 1) (.slice av nv cv) (madeL j (withX ps k x) (withY ps k y)) := G2
        replace B2 := Below.drew B2
        have lb : b < wr.heap.size := World.block_lt_of_cell? _ _ c0
        have lb1 := Nat.ne_of_lt lb
        have lb2 := Nat.ne_of_gt lb
        have lk1 := Nat.ne_of_lt k2
        have lk2 := Nat.ne_of_gt k2
        have lo1 := Nat.ne_of_lt o2
        have lo2 := Nat.ne_of_gt o2
        go_wp2_with fail
        go_region_law (refine step_append_lies _ (by rfl) _ _ 23 (by rfl) (w.heap.size + 1 + 1 + 1 + 1) 42 i0 _ 2 16 Try.underlying23 hi hz0 hz1 hz2 rfl (by decide) _ _ _ (by rfl) G2 ⟨wr.heap.size, 0, none⟩ 1 1 [.int .i64 u, .int .i64 v] (by rfl) rfl cw (by simp [Value.oneCell']) (by decide) (by rw [hml]; unfold maxLen; omega) (by rw [hml]; omega) (by simp; omega) _ rfl ?_; intro g' cap' w5 hown hgrow hat hlt5; rw [hml] at hown; have O5 := O2.kept hgrow (G2.far (by omega)); have o5 := O5.1; have f5 := O5.2.1; have l5 := O5.2.2)
        all_goals
          go_wp2
          have G5 : Grows w5 (w.heap.size + 1 + 1 + 1 + 1) (.slice (some ⟨g', 0, none⟩) (j + 1) cap') (madeL (j + 1) (withX ps k x) (withY ps k y)) := by
            rw [hm]
            unfold Grows
            rw [flat_snoc, List.length_append, hml]
            exact hown
          have K5 := K2.kept hgrow (G2.far (by omega))
          have M5 := M2.kept hgrow (G2.far (by omega))
          have Q5 := Q2.kept hgrow (G2.far (by omega))
          have R5 := R2.kept hgrow (fun q e => by cases e; exact G2.far (by show b < _; omega))
          have B5 := B2.grown hgrow B2.size (fun c e => by have := (World.ownsRow.lt G2 c e).1; omega)
          have S5 := hgrow.size
          go_roundw
          case rel => exact ⟨j + 1, _, _, _, by omega, by go_num, G5.set (by omega) _, O5.set _, K5.other _ (by simp <;> omega) _, Q5.other _ _ (by simp <;> omega) _, M5.other _ (by simp <;> omega) _, R5.set _ _ (fun q e => by cases e; simp <;> omega), by simp [World.setCell]; simp at S5; omega, B5.setCell (p := ⟨w.heap.size + 1 + 1 + 1, 0, none⟩) (by simp <;> omega) _⟩
          case measure => simp [intOf]; omega
    · obtain rfl : j = ps.length := by omega
      obtain ⟨g, cap2, hv, hg1, hg2, hg3, hrow⟩ := G.row (by rw [madeL_length]; omega)
      rw [madeL_length] at hv hg2
      rw [hfin] at hrow
      injection hv with e1 e2 e3
      subst e1 e2 e3
      obtain ⟨m0, m1, m2⟩ := id M
      go_wp2
      refine bodyPost_ret (v := .agg #[.slice (some ⟨g, 0, none⟩) ps.length cv]) ?_ rfl ⟨⟨g, cv, rfl, by omega, hg2, hg3, hrow.other ⟨w.heap.size + 1 + 1, 0, none⟩ (by simp <;> omega) _⟩, hb.setCell (p := ⟨w.heap.size + 1 + 1, 0, none⟩) (by simp <;> omega) _⟩
      simp [results, Try.results56, go_sem, m0]
end Go.Proofs.Ytpnfkigeagbhpaa
