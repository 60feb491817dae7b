/- The laws' own copy of a box: a new list with the same pairs; its size; two boxes with the same pairs are the same. Conditions: the list is no longer than 2^20. -/
import Derived.Test.YtlggbihdmabifaaGreatDoorPK39
import Derived.Test.YtlggbihdmabifaaGreatDoorPK40
import Derived.OwnWalk
import Derived.BigQuiet
import Derived.Deep.QuietTactic
namespace Go.Proofs.YtlggbihdmabifaaGreatDoor
open Go.RowKit
set_option linter.unusedVariables false
set_option maxRecDepth 100000

/-- a list of pairs in a block of its own -/
def Row (w : World) (b : Nat) (ps : List (Int × Int)) : Prop :=
  b < w.heap.size ∧ ∀ i, i < ps.length → (w.cell? ⟨b, i * 2, none⟩ = some (.int .i64 (ps.getD i (0, 0)).1) ∧ w.cell? ⟨b, i * 2 + 1, none⟩ = some (.int .i64 (ps.getD i (0, 0)).2)) ∧ w.frozen? ⟨b, i * 2, none⟩ = false ∧ w.frozen? ⟨b, i * 2 + 1, none⟩ = false
def Fits (ps : List (Int × Int)) : Prop := ∀ p ∈ ps, (-9223372036854775808 ≤ p.1 ∧ p.1 ≤ 9223372036854775807) ∧ -9223372036854775808 ≤ p.2 ∧ p.2 ≤ 9223372036854775807
/-- a cell of a block -/
def Cel1 (w : World) (b : Nat) (x : Value) : Prop := w.cell? ⟨b, 0, none⟩ = some x ∧ w.frozen? ⟨b, 0, none⟩ = false ∧ b < w.heap.size
theorem Cel1.later {w w1 : World} {b : Nat} {x : Value} (h : Cel1 w b x) (k : Below w.heap.size w w1) : Cel1 w1 b x :=
  ⟨(k.cell (p := ⟨b, 0, none⟩) h.2.2).trans h.1, (k.frozen (p := ⟨b, 0, none⟩) h.2.2).trans h.2.1, Nat.lt_of_lt_of_le h.2.2 k.size⟩
theorem Cel1.alloc {w : World} {b : Nat} {x : Value} (h : Cel1 w b x) (o : Obj) : Cel1 (w.alloc o) b x := h.later ((Below.refl _ _).alloc (Nat.le_refl _) o)
theorem Cel1.made (w : World) (b : Nat) (hb : b = w.heap.size) (x : Value) (t : TypeId) : Cel1 (w.alloc (.cells #[x] t)) b x := by subst hb; exact ⟨by simp, by simp, by simp⟩
theorem Cel1.set {w : World} {b : Nat} {x : Value} (h : Cel1 w b x) (y : Value) : Cel1 (w.setCell ⟨b, 0, none⟩ y) b y := ⟨World.cell?_setCell_same _ _ _ h.1, by simpa using h.2.1, by simpa [World.setCell] using h.2.2⟩
theorem Cel1.other {w : World} {b : Nat} {x : Value} (h : Cel1 w b x) (p : Addr) (hne : b ≠ p.block) (y : Value) : Cel1 (w.setCell p y) b x := ⟨by rw [World.cell?_setCell_other _ _ _ _ (by intro e; subst e; exact hne rfl)]; exact h.1, by simpa using h.2.1, by simpa [World.setCell] using h.2.2⟩
theorem Row.old {w w' : World} {b : Nat} {ps : List (Int × Int)} (h : Row w b ps) (k : Below w.heap.size w w') : Row w' b ps := by
  refine ⟨Nat.lt_of_lt_of_le h.1 k.size, fun i hi => ?_⟩
  obtain ⟨⟨h1, h2⟩, h3, h4⟩ := h.2 i hi
  exact ⟨⟨(k.cell (p := ⟨b, i * 2, none⟩) h.1).trans h1, (k.cell (p := ⟨b, i * 2 + 1, none⟩) h.1).trans h2⟩, (k.frozen (p := ⟨b, i * 2, none⟩) h.1).trans h3, (k.frozen (p := ⟨b, i * 2 + 1, none⟩) h.1).trans h4⟩
theorem Row.inRow {w : World} {b cap : Nat} {ps : List (Int × Int)} (h : Row w b ps) (f : Fits ps) (h1 : ps.length ≤ cap) (h2 : cap ≤ maxLen) : InRow w (some ⟨b, 0, none⟩) ps.length cap ps := by
  refine ⟨rfl, h1, h2, f, .inr ⟨b, 0, rfl, h.1, fun i hi => ?_⟩⟩
  rw [Nat.zero_add, Nat.zero_add]
  exact (h.2 i hi).1
theorem Row.set {w : World} {b : Nat} {ps : List (Int × Int)} (h : Row w b ps) (k : Nat) (hk : k < ps.length) (x y : Int) : Row ((w.setCell ⟨b, k * 2, none⟩ (.int .i64 x)).setCell ⟨b, k * 2 + 1, none⟩ (.int .i64 y)) b (ps.set k (x, y)) := by
  refine ⟨by simpa [World.setCell] using h.1, fun i hi => ?_⟩
  rw [List.length_set] at hi
  obtain ⟨⟨h1, h2⟩, h3, h4⟩ := h.2 i hi
  by_cases e : i = k
  · subst e
    have eg : (ps.set i (x, y)).getD i (0, 0) = (x, y) := by simp [List.getD_eq_getElem?_getD, hk]
    rw [eg]
    have k2 : (w.setCell ⟨b, i * 2, none⟩ (.int .i64 x)).cell? ⟨b, i * 2 + 1, none⟩ = some (.int .i64 (ps.getD i (0, 0)).2) := by
      rw [World.cell?_setCell_other _ _ _ _ (by intro h; injection h with _ h2; omega)]; exact h2
    refine ⟨⟨?_, World.cell?_setCell_same _ _ _ k2⟩, by simpa using h3, by simpa using h4⟩
    rw [World.cell?_setCell_other _ _ _ _ (by intro h; injection h with _ h2; omega)]
    exact World.cell?_setCell_same _ _ _ h1
  · have eg : (ps.set k (x, y)).getD i (0, 0) = ps.getD i (0, 0) := by simp [List.getD_eq_getElem?_getD, Ne.symm e]
    rw [eg]
    refine ⟨⟨?_, ?_⟩, by simpa using h3, by simpa using h4⟩
    · rw [World.cell?_setCell_other _ _ _ _ (by intro h; injection h with _ h2; omega), World.cell?_setCell_other _ _ _ _ (by intro h; injection h with _ h2; omega)]; exact h1
    · rw [World.cell?_setCell_other _ _ _ _ (by intro h; injection h with _ h2; omega), World.cell?_setCell_other _ _ _ _ (by intro h; injection h with _ h2; omega)]; exact h2
theorem Row.other {w : World} {b : Nat} {ps : List (Int × Int)} (h : Row w b ps) (p : Addr) (hne : b ≠ p.block) (y : Value) : Row (w.setCell p y) b ps := by
  refine ⟨by simpa [World.setCell] using h.1, fun i hi => ?_⟩
  obtain ⟨⟨h1, h2⟩, h3, h4⟩ := h.2 i hi
  refine ⟨⟨?_, ?_⟩, by simpa using h3, by simpa using h4⟩
  · rw [World.cell?_setCell_other _ _ _ _ (by intro e; subst e; exact hne rfl)]; exact h1
  · rw [World.cell?_setCell_other _ _ _ _ (by intro e; subst e; exact hne rfl)]; exact h2
theorem Row.made (w : World) (n : Nat) (t : TypeId) : Row (w.alloc (.cells (madeCells #[.int .i64 0, .int .i64 0] (n * 2)) t)) w.heap.size (List.replicate n (0, 0)) := by
  refine ⟨by simp, fun i hi => ?_⟩
  rw [List.length_replicate] at hi
  have eg : (List.replicate n ((0 : Int), (0 : Int))).getD i (0, 0) = (0, 0) := by simp [List.getD_eq_getElem?_getD, hi]
  rw [eg]
  have e0 : (madeCells #[Value.int IntKind.i64 0, Value.int IntKind.i64 0] (n * 2))[i * 2]? = some (.int .i64 0) := by
    simp [madeCells, show i * 2 < n * 2 by omega]
  have e1 : (madeCells #[Value.int IntKind.i64 0, Value.int IntKind.i64 0] (n * 2))[i * 2 + 1]? = some (.int .i64 0) := by
    simp [madeCells, show i * 2 + 1 < n * 2 by omega, show (i * 2 + 1) % 2 = 1 by omega]
  exact ⟨⟨by simp [e0], by simp [e1]⟩, by simp, by simp⟩

theorem InRow.at {w : World} {a : Option Addr} {len cap : Nat} {ps : List (Int × Int)} (h : InRow w a len cap ps) {k : Nat} (hk : k < len) : ∃ (b off : Nat) (x y : Int), a = some ⟨b, off, none⟩ ∧ b < w.heap.size ∧ ps.getD k (0, 0) = (x, y) ∧ ((-9223372036854775808 ≤ x ∧ x ≤ 9223372036854775807) ∧ -9223372036854775808 ≤ y ∧ y ≤ 9223372036854775807) ∧ w.cell? ⟨b, off + k * 2, none⟩ = some (.int .i64 x) ∧ w.cell? ⟨b, off + k * 2 + 1, none⟩ = some (.int .i64 y) := by
  rcases h.2.2.2.2 with h0 | ⟨b, off, e, hb, hc⟩
  · omega
  · have hl := h.1
    refine ⟨b, off, _, _, e, hb, rfl, ?_, (hc k hk).1, ?_⟩
    · apply h.2.2.2.1
      have e2 : ps.getD k (0, 0) = ps[k]'(by omega) := by rw [List.getD_eq_getElem?_getD, List.getElem?_eq_getElem (by omega)]; rfl
      show ps.getD k (0, 0) ∈ ps
      rw [e2]
      exact List.getElem_mem _
    · rw [Nat.add_assoc]
      exact (hc k hk).2
theorem Row.at {w : World} {b : Nat} {ps : List (Int × Int)} (h : Row w b ps) {k : Nat} (hk : k < ps.length) : ∃ x y : Int, ps.getD k (0, 0) = (x, y) ∧ w.cell? ⟨b, k * 2, none⟩ = some (.int .i64 x) ∧ w.cell? ⟨b, k * 2 + 1, none⟩ = some (.int .i64 y) ∧ w.frozen? ⟨b, k * 2, none⟩ = false ∧ w.frozen? ⟨b, k * 2 + 1, none⟩ = false :=
  ⟨_, _, rfl, (h.2 k hk).1.1, (h.2 k hk).1.2, (h.2 k hk).2.1, (h.2 k hk).2.2⟩

theorem infoPair : (Tryz.prog.info? 46).map (fun i => (i.zero, i.size, i.bytes)) = some (some (.agg #[.int .i64 0, .int .i64 0]), 2, 16) := by kernel_rfl
theorem mkPairs (w : World) (n : Nat) (hn : n ≤ 1048576) : (Instr.makeSlice 29 (.int .i64 (n : Int)) (.int .i64 (n : Int))).run Tryz.prog w = .ok (.slice (some ⟨w.heap.size, 0, none⟩) n n) (w.alloc (.cells (madeCells #[.int .i64 0, .int .i64 0] (n * 2)) 46)) := by
  obtain ⟨i, h1, h2, h3, h4⟩ := info_parts infoPair
  have h := run_make (P := Tryz.prog) w 29 46 i _ Tryz.underlying29 h1 h2 .i64 .i64 n n (by omega) (by omega) (by rw [h4]; omega) (by omega)
  rw [h3] at h
  exact h

/-- the first k pairs are these -/
def Upto (k : Nat) (qs ps : List (Int × Int)) : Prop := qs.length = ps.length ∧ ∀ i, i < k → qs.getD i (0, 0) = ps.getD i (0, 0)
theorem Upto.zero {n : Nat} {ps : List (Int × Int)} (hp : ps.length = n) : Upto 0 (List.replicate n (0, 0)) ps := ⟨by simp [hp], fun i h => by omega⟩
theorem Upto.step {k : Nat} {qs ps : List (Int × Int)} (h : Upto k qs ps) (hk : k < ps.length) : Upto (k + 1) (qs.set k (ps.getD k (0, 0))) ps := by
  refine ⟨by simpa using h.1, fun i hi => ?_⟩
  by_cases e : i = k
  · subst e; simp [List.getD_eq_getElem?_getD, h.1, hk]
  · rw [← h.2 i (by omega)]; simp [List.getD_eq_getElem?_getD, Ne.symm e]
theorem Upto.all {qs ps : List (Int × Int)} (h : Upto ps.length qs ps) : qs = ps := by
  apply List.ext_getElem h.1
  intro i h1 h2
  have := h.2 i h2
  simpa [List.getD_eq_getElem?_getD, h1, h2] using this

set_option maxHeartbeats 1000000 in
theorem lToPairs (a : Option Addr) (len cap : Nat) (ps : List (Int × Int)) (w : World) (hR : InRow w a len cap ps) (hl : len ≤ 1048576) :
    Calls Tryz.prog 16 #[.slice a len cap] w fun e w' => (e = .returned (.slice (some ⟨w.heap.size, 0, none⟩) len len) ∧ Row w' w.heap.size ps) ∧ Below w.heap.size w w' := by
  have hmk := mkPairs w len hl
  have hr0 := Row.made w len 46
  have hb0 : Below w.heap.size w (w.alloc (.cells (madeCells #[.int .i64 0, .int .i64 0] (len * 2)) 46)) := (Below.refl _ w).alloc (Nat.le_refl _) _
  generalize w.alloc (.cells (madeCells #[.int .i64 0, .int .i64 0] (len * 2)) 46) = w0 at *
  have hp := hR.1
  go_enter Tryz.func16, Tryz.ntmps16
  go_wp2
  go_loopw [4] (fun a wr => ∃ (k : Nat) (qs : List (Int × Int)), k ≤ len ∧ a = .int .i64 k ∧ Upto k qs ps ∧ Row wr w.heap.size qs ∧ Below w.heap.size w wr) (fun b _ => len - (intOf b).toNat)
  case atStart => exact ⟨0, _, by omega, rfl, Upto.zero hp, hr0, hb0⟩
  case round =>
    obtain ⟨k, qs, hk, rfl, hu, hr, hb⟩ := hrel
    by_cases hlt : k < len
    · obtain ⟨b, off, x, y, rfl, hbl, hx, -, c0, c1⟩ := (hR.old hb).at hlt
      go_wp2_with fail
      refine (toPair x y _).mono ?_
      rintro e w1 ⟨rfl, hb1⟩
      have hr1 := hr.old hb1
      obtain ⟨x', y', -, d0, d1, d2, d3⟩ := hr1.at (k := k) (by rw [hu.1]; omega)
      go_wp2
      go_roundw
      case rel =>
        refine ⟨k + 1, _, by omega, by go_num, hu.step (by omega), ?_, ?_⟩
        · rw [hx]; exact hr1.set k (by rw [hu.1]; omega) x y
        · exact ((hb.trans (hb1.mono hb.size)).setCell (p := ⟨w.heap.size, k * 2, none⟩) (Nat.le_refl _) _).setCell (p := ⟨w.heap.size, k * 2 + 1, none⟩) (Nat.le_refl _) _
      case measure => simp [intOf]; omega
    · obtain rfl : k = len := by omega
      go_wp2
      go_ret
      subst hp
      exact ⟨⟨rfl, by rw [← hu.all]; exact hr⟩, hb⟩
set_option maxHeartbeats 1000000 in
theorem lToBox (a : Option Addr) (len cap : Nat) (ps : List (Int × Int)) (w : World) (hR : InRow w a len cap ps) (hl : len ≤ 1048576) :
    Calls Tryz.prog 7 #[.agg #[.slice a len cap]] w fun e w' => (∃ b, e = .returned (.agg #[.slice (some ⟨b, 0, none⟩) len len]) ∧ w.heap.size ≤ b ∧ Row w' b ps) ∧ Below w.heap.size w w' := by
  go_enter Tryz.func7, Tryz.ntmps7
  have k1 : Cel1 (((w.alloc (.cells #[.slice a len cap] 24)).alloc (.cells #[.slice none 0 0] 31)).alloc (.cells #[.slice none 0 0] 31)) (w.heap.size + 1) (.slice none 0 0) := (Cel1.made _ _ (by simp) _ _).alloc _
  have k2 : Cel1 (((w.alloc (.cells #[.slice a len cap] 24)).alloc (.cells #[.slice none 0 0] 31)).alloc (.cells #[.slice none 0 0] 31)) (w.heap.size + 1 + 1) (.slice none 0 0) := Cel1.made _ _ (by simp) _ _
  go_wp2_with fail
  have hR2 := ((hR.old ((Below.refl _ w).alloc (Nat.le_refl _) (.cells #[.slice a len cap] 24))).old ((Below.refl _ _).alloc (Nat.le_refl _) (.cells #[.slice none 0 0] 31))).old ((Below.refl _ _).alloc (Nat.le_refl _) (.cells #[.slice none 0 0] 31))
  refine (lToPairs a len cap ps _ hR2 hl).mono ?_
  rintro e w1 ⟨⟨rfl, hr⟩, hb1⟩
  replace k1 := k1.later hb1
  replace k2 := k2.later hb1
  obtain ⟨c1, f1, l1⟩ := k1
  obtain ⟨c2, f2, l2⟩ := k2
  have hlt := hr.1
  simp only [World.size_alloc] at hr hlt
  have hB : Below w.heap.size w w1 := old_trans (((Below.refl _ w).alloc (Nat.le_refl _) _).alloc (by simp) _ |>.alloc (by simp; omega) _) hb1
  go_wp2
  have hr2 := (hr.other ⟨w.heap.size + 1 + 1, 0, none⟩ (by simp <;> omega) (.slice (some ⟨w.heap.size + 1 + 1 + 1, 0, none⟩) len len)).other ⟨w.heap.size + 1, 0, none⟩ (by simp <;> omega) (.slice (some ⟨w.heap.size + 1 + 1 + 1, 0, none⟩) len len)
  refine bodyPost_ret (v := .agg #[.slice (some ⟨w.heap.size + 1 + 1 + 1, 0, none⟩) len len]) ?_ rfl ⟨⟨_, rfl, by omega, hr2⟩, (hB.setCell (p := ⟨w.heap.size + 1 + 1, 0, none⟩) (by simp; omega) _).setCell (p := ⟨w.heap.size + 1, 0, none⟩) (by simp) _⟩
  simp [results, Tryz.results7, go_sem, c1]
set_option maxHeartbeats 1000000 in
theorem lSzPairs (a : Option Addr) (len cap : Nat) (l : Int) (hlen : len ≤ maxLen) (h0 : 0 ≤ l) (h1 : l ≤ 1048576) (w : World) :
    Calls Tryz.prog 12 #[.slice a len cap, .int .i64 l] w fun e w' => e = .returned (.int .i64 (if (len : Int) ≤ l then l - len else -1)) ∧ w' = w := by
  unfold maxLen at hlen
  by_cases c : (len : Int) ≤ l
  · rw [if_pos c]
    go_enter Tryz.func12, Tryz.ntmps12
    go_wp2
    go_ret
    exact ⟨rfl, rfl⟩
  · rw [if_neg c]
    go_enter Tryz.func12, Tryz.ntmps12
    go_wp2
    go_ret
    exact ⟨rfl, rfl⟩
set_option maxHeartbeats 1000000 in
theorem lSzBox (a : Option Addr) (len cap : Nat) (l : Int) (hlen : len ≤ maxLen) (h0 : 0 ≤ l) (h1 : l ≤ 1048576) (w : World) :
    Calls Tryz.prog 4 #[.agg #[.slice a len cap], .int .i64 l] w fun e w' => e = .returned (.int .i64 (if (len : Int) ≤ l then l - len else -1)) ∧ Below w.heap.size w w' := by
  have H := hd (lSzPairs a len cap l hlen h0 h1)
  by_cases c : (len : Int) ≤ l
  · rw [if_pos c] at *
    go_enter Tryz.func4, Tryz.ntmps4
    go_wp2_with (go_at_call 12; refine (H.out _).mono ?_; rintro e w1 ⟨rfl, rfl⟩)
    go_ret
    exact ⟨rfl, (by repeat (first | exact Below.refl _ _ | refine Below.drew ?_ | refine old_alloc ?_ _ | refine old_trans ?_ (by assumption)))⟩
  · rw [if_neg c] at *
    go_enter Tryz.func4, Tryz.ntmps4
    go_wp2_with (go_at_call 12; refine (H.out _).mono ?_; rintro e w1 ⟨rfl, rfl⟩)
    go_ret
    exact ⟨rfl, (by repeat (first | exact Below.refl _ _ | refine Below.drew ?_ | refine old_alloc ?_ _ | refine old_trans ?_ (by assumption)))⟩
set_option maxHeartbeats 2000000 in
theorem lEqPairs (a a' : Option Addr) (len cap cap' : Nat) (ps : List (Int × Int)) (w : World) (hR : InRow w a len cap ps) (hR' : InRow w a' len cap' ps) :
    Calls Tryz.prog 22 #[.slice a len cap, .slice a' len cap'] w fun e w' => e = .returned (.bool true) ∧ Below w.heap.size w w' := by
  have hlen : len ≤ maxLen := Nat.le_trans hR.2.1 hR.2.2.1
  unfold maxLen at hlen
  go_enter Tryz.func22, Tryz.ntmps22
  go_wp2
  go_loopw [5] (fun a wr => ∃ k : Nat, k ≤ len ∧ a = .int .i64 k ∧ Below w.heap.size w wr) (fun b _ => len - (intOf b).toNat)
  case atStart => exact ⟨0, by omega, rfl, (by repeat (first | exact Below.refl _ _ | refine Below.drew ?_ | refine old_alloc ?_ _ | refine old_trans ?_ (by assumption)))⟩
  case round =>
    obtain ⟨k, hk, rfl, hb⟩ := hrel
    by_cases hlt : k < len
    · obtain ⟨b, off, x, y, rfl, hbl, hx, -, c0, c1⟩ := (hR.old hb).at hlt
      obtain ⟨b', off', x', y', rfl, hbl', hx', -, c0', c1'⟩ := (hR'.old hb).at hlt
      obtain ⟨rfl, rfl⟩ := Prod.mk.inj (hx.symm.trans hx')
      have E := hd (eqPair_same x y)
      go_wp2_with fail
      go_region_with (go_at_call 38; refine (E.out _).mono ?_; rintro e w1 ⟨rfl, hb1⟩)
      all_goals
        go_wp2
        go_roundw
        case rel => exact ⟨k + 1, by omega, by go_num, (by repeat (first | exact hb | exact Below.refl _ _ | refine Below.drew ?_ | refine old_alloc ?_ _ | refine old_trans ?_ (by assumption)))⟩
        case measure => simp [intOf]; omega
    · obtain rfl : k = len := by omega
      go_wp2
      go_ret
      exact ⟨rfl, hb⟩
set_option maxHeartbeats 2000000 in
theorem lEqBox (a a' : Option Addr) (len cap cap' : Nat) (ps : List (Int × Int)) (w : World) (hR : InRow w a len cap ps) (hR' : InRow w a' len cap' ps) :
    Calls Tryz.prog 10 #[.agg #[.slice a len cap], .agg #[.slice a' len cap']] w fun e w' => e = .returned (.bool true) ∧ Below w.heap.size w w' := by
  have h2 : ∀ t t', Below w.heap.size w ((w.alloc (.cells #[.slice a len cap] t)).alloc (.cells #[.slice a' len cap'] t')) := fun _ _ => ((Below.refl _ w).alloc (Nat.le_refl _) _).alloc (by simp) _
  have H := hd (lEqPairs a a' len cap cap' ps _ (hR.old (h2 31 31)) (hR'.old (h2 31 31)))
  clear hR hR'
  go_enter Tryz.func10, Tryz.ntmps10
  go_wp2_with (go_at_call 22; refine H.out.mono ?_; rintro e w1 ⟨rfl, hb1⟩)
  go_ret
  exact ⟨rfl, (by repeat (first | exact Below.refl _ _ | refine Below.drew ?_ | refine old_alloc ?_ _ | refine old_trans ?_ (by assumption)))⟩
end Go.Proofs.YtlggbihdmabifaaGreatDoor
