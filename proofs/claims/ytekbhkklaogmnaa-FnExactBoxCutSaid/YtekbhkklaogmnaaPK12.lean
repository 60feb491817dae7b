/- Whether a box is one: by the specification's loop, and by the program's search for a wrong coordinate. No condition. -/
import Derived.Test.YtekbhkklaogmnaaPK10
import Derived.Test.YtekbhkklaogmnaaPK11
import Derived.RangeFuncBox
import Derived.Maps.AppendAt
namespace Go.Proofs.Ytekbhkklaogmnaa
open Go.RowKit
set_option linter.unusedVariables false
set_option maxRecDepth 100000

def okRow (wd : Int) (ps : List (Int × Int)) : Bool := decide (1 ≤ ps.length) && (decide (ps.length ≤ 6) && ps.all (fun p => pokB wd p.1 p.2))
theorem okRow_short {wd : Int} {ps : List (Int × Int)} (h : ps.length < 1) : okRow wd ps = false := by unfold okRow; simp [show ¬ 1 ≤ ps.length by omega]
theorem okRow_long {wd : Int} {ps : List (Int × Int)} (h : 6 < ps.length) : okRow wd ps = false := by unfold okRow; simp [show ¬ ps.length ≤ 6 by omega]
theorem okRow_no {wd : Int} {ps : List (Int × Int)} {k : Nat} (hk : k < ps.length) {x y : Int} (hx : ps.getD k (0, 0) = (x, y)) (h : pokB wd x y = false) : okRow wd ps = false := by
  unfold okRow
  have : ps.all (fun p => pokB wd p.1 p.2) = false := by
    rw [List.all_eq_false]
    refine ⟨(x, y), ?_, by simp [h]⟩
    rw [← hx, List.getD_eq_getElem?_getD, List.getElem?_eq_getElem hk]
    exact List.getElem_mem _
  simp [this]
theorem okRow_yes {wd : Int} {ps : List (Int × Int)} (h1 : 1 ≤ ps.length) (h2 : ps.length ≤ 6) (h : ∀ k, k < ps.length → pokB wd (ps.getD k (0, 0)).1 (ps.getD k (0, 0)).2 = true) : okRow wd ps = true := by
  unfold okRow
  have : ps.all (fun p => pokB wd p.1 p.2) = true := by
    rw [List.all_eq_true]
    intro p hp
    obtain ⟨k, hk, rfl⟩ := List.getElem_of_mem hp
    have := h k hk
    rw [List.getD_eq_getElem?_getD, List.getElem?_eq_getElem hk] at this
    exact this
  simp [this, h1, h2]

set_option maxHeartbeats 2000000 in
theorem sBoxOk (wd : Int) (a : Option Addr) (len cap : Nat) (ps : List (Int × Int)) (w : World) (hR : InRow w a len cap ps) :
    Calls Try.prog 13 #[.int .i64 wd, .agg #[.slice a len cap]] w fun e w' => e = .returned (.bool (okRow wd ps)) ∧ Below w.heap.size w w' := by
  have hlen : len ≤ maxLen := Nat.le_trans hR.2.1 hR.2.2.1
  have hp := hR.1
  unfold maxLen at hlen
  by_cases c1 : len < 1
  · rw [okRow_short (by omega)]
    go_enter Try.func13, Try.ntmps13
    go_wp2
    go_ret
    exact ⟨rfl, (by repeat (first | exact Below.refl _ _ | refine Below.drew ?_ | refine old_alloc ?_ _ | refine old_trans ?_ (by assumption)))⟩
  by_cases c2 : 6 < len
  · rw [okRow_long (by omega)]
    go_enter Try.func13, Try.ntmps13
    go_wp2
    go_ret
    exact ⟨rfl, (by repeat (first | exact Below.refl _ _ | refine Below.drew ?_ | refine old_alloc ?_ _ | refine old_trans ?_ (by assumption)))⟩
  have b3 := Cel1.made w _ rfl (.slice a len cap) 30
  have hb3 : Below w.heap.size w (w.alloc (.cells #[.slice a len cap] 30)) := (Below.refl _ w).alloc (Nat.le_refl _) _
  have hR3 := hR.old hb3
  go_enter Try.func13, Try.ntmps13
  go_wp2
  go_loopw [5] (fun i wr => ∃ k : Nat, k ≤ len ∧ i = .int .i64 k ∧ Hid (∀ j, j < k → pokB wd (ps.getD j (0, 0)).1 (ps.getD j (0, 0)).2 = true) ∧ Cel1 wr w.heap.size (.slice a len cap) ∧ InRow wr a len cap ps ∧ Below w.heap.size w wr) (fun b _ => len - (intOf b).toNat)
  case atStart => exact ⟨0, by omega, rfl, fun j hj => absurd hj (by omega), b3, hR3, hb3⟩
  case round =>
    obtain ⟨k, hk, rfl, hall, K, hRr, hb⟩ := hrel
    obtain ⟨k0, k1, k2⟩ := id K
    by_cases hlt : k < len
    · obtain ⟨b, off, x, y, rfl, hbl, hx, -, c0, c1'⟩ := hRr.at hlt
      have E := hd (sPairOk wd x y)
      cases hpk : pokB wd x y
      · rw [hpk] at E
        have hno : Hid (okRow wd ps = false) := okRow_no (by omega) hx hpk
        clear hpk
        go_wp2_with (go_at_call 23; refine (E.out _).mono ?_; rintro e w1 ⟨rfl, hb1⟩)
        go_ret
        exact ⟨by rw [hno.out]; rfl, (by repeat (first | exact hb | exact Below.refl _ _ | refine Below.drew ?_ | refine old_alloc ?_ _ | refine old_trans ?_ (by assumption)))⟩
      · have hall' : Hid (∀ j, j < k + 1 → pokB wd (ps.getD j (0, 0)).1 (ps.getD j (0, 0)).2 = true) := by
          intro j hj
          by_cases e : j = k
          · subst e; rw [hx]; exact hpk
          · exact hall j (by omega)
        rw [hpk] at E
        clear hpk
        go_wp2_with (go_at_call 23; refine (E.out _).mono ?_; rintro e w1 ⟨rfl, hb1⟩)
        go_roundw
        case rel => exact ⟨k + 1, by omega, by go_num, hall', K.later hb1, hRr.old hb1, (by repeat (first | exact hb | exact Below.refl _ _ | refine Below.drew ?_ | refine old_alloc ?_ _ | refine old_trans ?_ (by assumption)))⟩
        case measure => simp [intOf]; omega
    · obtain rfl : k = len := by omega
      have hyes : Hid (okRow wd ps = true) := okRow_yes (by omega) (by omega) (hp ▸ hall)
      go_wp2
      go_ret
      exact ⟨by rw [hyes.out]; rfl, hb⟩

theorem firstI_neg {len : Nat} {p : Nat → Bool} : decide (firstI len p < 0) = (List.range len).all (fun k => !p k) := by
  unfold firstI
  split
  · rename_i k h
    have := List.find?_some h
    have hm := List.mem_of_find?_eq_some h
    rw [Bool.eq_iff_iff]
    simp only [decide_eq_true_eq, List.all_eq_true]
    constructor
    · intro h; omega
    · intro h; have := h k hm; simp_all
  · rename_i h
    rw [List.find?_eq_none] at h
    rw [Bool.eq_iff_iff]
    simp only [decide_eq_true_eq, List.all_eq_true]
    constructor
    · intro _ x hx; simpa using h x hx
    · intro _; omega

set_option maxHeartbeats 2000000 in
theorem iBoxOk1 (wd : Int) (a : Option Addr) (len cap : Nat) (ps : List (Int × Int)) (B C k : Nat) (hk : k < len) (w : World) (hR : InRow w a len cap ps) (hB : w.cell? ⟨B, 0, none⟩ = some (.int .i64 wd)) (hC : w.cell? ⟨C, 0, none⟩ = some (.slice a len cap)) :
    Calls Try.prog 34 #[.int .i64 (k : Int), .pointer (some ⟨B, 0, none⟩), .pointer (some ⟨C, 0, none⟩)] w fun e w' => e = .returned (.bool (!pokB wd (ps.getD k (0, 0)).1 (ps.getD k (0, 0)).2)) ∧ Below w.heap.size w w' := by
  have hlen : len ≤ maxLen := Nat.le_trans hR.2.1 hR.2.2.1
  unfold maxLen at hlen
  obtain ⟨b, off, x, y, rfl, hbl, hx, -, c0, c1⟩ := hR.at hk
  rw [hx]
  have E := hd (iPairOk wd x y)
  dsimp only
  generalize pokB wd x y = r at *
  go_enter Try.func34, Try.ntmps34
  go_wp2_with fail
  go_region_with (go_at_call 28; refine (E.out _).mono ?_; rintro e w1 ⟨rfl, hb1⟩)
  all_goals
    go_wp2
    go_ret
    exact ⟨rfl, (by repeat (first | exact Below.refl _ _ | refine Below.drew ?_ | refine old_alloc ?_ _ | refine old_trans ?_ (by assumption)))⟩

theorem okRow_first {wd : Int} {ps : List (Int × Int)} (h1 : ¬ ps.length < 1) (h2 : ¬ 6 < ps.length) : decide (firstI ps.length (fun k => !pokB wd (ps.getD k (0, 0)).1 (ps.getD k (0, 0)).2) < 0) = okRow wd ps := by
  rw [firstI_neg]
  cases h : (List.range ps.length).all (fun k => !(!pokB wd (ps.getD k (0, 0)).1 (ps.getD k (0, 0)).2))
  · rw [List.all_eq_false] at h
    obtain ⟨k, hk, hn⟩ := h
    rw [List.mem_range] at hk
    rw [okRow_no (k := k) hk (x := (ps.getD k (0, 0)).1) (y := (ps.getD k (0, 0)).2) rfl (by simpa only [Bool.not_not, Bool.not_eq_true] using hn)]
  · rw [List.all_eq_true] at h
    rw [okRow_yes (by omega) (by omega) (fun k hk => by simpa using h k (List.mem_range.2 hk))]

set_option maxHeartbeats 2000000 in
theorem iBoxOk (wd : Int) (a : Option Addr) (len cap : Nat) (ps : List (Int × Int)) (w : World) (hR : InRow w a len cap ps) :
    Calls Try.prog 25 #[.int .i64 wd, .agg #[.slice a len cap]] w fun e w' => e = .returned (.bool (okRow wd ps)) ∧ Below w.heap.size w w' := by
  have hlen : len ≤ maxLen := Nat.le_trans hR.2.1 hR.2.2.1
  have hlen' := hlen
  obtain rfl := hR.1
  unfold maxLen at hlen
  by_cases c1 : ps.length < 1
  · rw [okRow_short (by omega)]
    go_enter Try.func25, Try.ntmps25
    go_wp2
    go_ret
    exact ⟨rfl, (by repeat (first | exact Below.refl _ _ | refine Below.drew ?_ | refine old_alloc ?_ _ | refine old_trans ?_ (by assumption)))⟩
  by_cases c2 : 6 < ps.length
  · rw [okRow_long (by omega)]
    go_enter Try.func25, Try.ntmps25
    go_wp2
    go_ret
    exact ⟨rfl, (by repeat (first | exact Below.refl _ _ | refine Below.drew ?_ | refine old_alloc ?_ _ | refine old_trans ?_ (by assumption)))⟩
  have hz := okRow_first (wd := wd) c1 c2
  have b2 : Cel1 ((w.alloc (.cells #[.int .i64 wd] 3)).alloc (.cells #[.slice a ps.length cap] 30)) w.heap.size (.int .i64 wd) := (Cel1.made w _ rfl _ _).alloc _
  have b3 : Cel1 ((w.alloc (.cells #[.int .i64 wd] 3)).alloc (.cells #[.slice a ps.length cap] 30)) (w.heap.size + 1) (.slice a ps.length cap) := Cel1.made _ _ (by simp) _ _
  have hb3 : Below w.heap.size w ((w.alloc (.cells #[.int .i64 wd] 3)).alloc (.cells #[.slice a ps.length cap] 30)) := ((Below.refl _ w).alloc (Nat.le_refl _) _).alloc (by simp) _
  have hR3 := hR.old hb3
  have H := hd (coordThat 34 #[.pointer (some ⟨w.heap.size, 0, none⟩), .pointer (some ⟨w.heap.size + 1, 0, none⟩)] a ps.length cap hlen' (fun k => !pokB wd (ps.getD k (0, 0)).1 (ps.getD k (0, 0)).2) _ (enters_of Try.func34 (by kernel_rfl) rfl)
    (fun k W hk hW => iBoxOk1 wd a ps.length cap ps w.heap.size (w.heap.size + 1) k hk W (hR3.old hW) (b2.later hW).1 (b3.later hW).1))
  generalize firstI ps.length _ = r at *
  go_enter Try.func25, Try.ntmps25
  go_wp2_with (go_at_call 33; refine H.out.mono ?_; rintro e w1 ⟨rfl, hb1⟩)
  go_ret
  exact ⟨by rw [← hz]; rfl, (by repeat (first | exact Below.refl _ _ | refine Below.drew ?_ | refine old_alloc ?_ _ | refine old_trans ?_ (by assumption)))⟩
end Go.Proofs.Ytekbhkklaogmnaa

/- What the laws over boxes carry from call to call. No condition. -/
namespace Go.Proofs.Ytekbhkklaogmnaa
open Go.RowKit
set_option linter.unusedVariables false
set_option maxRecDepth 100000

theorem Cel1.drew {w : World} {b : Nat} {x : Value} (h : Cel1 w b x) : Cel1 w.drew b x := h
theorem InRow.drew {w : World} {a : Option Addr} {len cap : Nat} {ps : List (Int × Int)} (h : InRow w a len cap ps) : InRow w.drew a len cap ps := h
theorem InRow.alloc {w : World} {a : Option Addr} {len cap : Nat} {ps : List (Int × Int)} (h : InRow w a len cap ps) (o : Obj) : InRow (w.alloc o) a len cap ps := h.old ((Below.refl _ _).alloc (Nat.le_refl _) o)
theorem InRow.set {w : World} {a : Option Addr} {len cap : Nat} {ps : List (Int × Int)} (h : InRow w a len cap ps) (p : Addr) (v : Value) (hne : ∀ q, a = some q → q.block ≠ p.block) : InRow (w.setCell p v) a len cap ps := by
  obtain ⟨h1, h2, h3, h4, h5⟩ := h
  refine ⟨h1, h2, h3, h4, ?_⟩
  rcases h5 with h5 | ⟨b, off, q1, q2, q3⟩
  · exact .inl h5
  · refine .inr ⟨b, off, q1, by simpa [World.setCell] using q2, fun i hi => ?_⟩
    have hn := hne _ q1
    rw [World.cell?_setCell_other _ _ _ _ (by intro e; subst e; exact hn rfl), World.cell?_setCell_other _ _ _ _ (by intro e; subst e; exact hn rfl)]
    exact q3 i hi

end Go.Proofs.Ytekbhkklaogmnaa

/- The laws' marks: every number of a list is written over with the next one; the list then holds these, and nothing else is written. Conditions: lists of 2^20 pairs at most. -/
namespace Go.Proofs.Ytekbhkklaogmnaa
open Go.RowKit
set_option linter.unusedVariables false
set_option maxRecDepth 100000

theorem grown_setE {w w' : World} {b : Nat} (h : w.grownBy w' (some b)) (i : Nat) (v : Value) : w.grownBy (w'.setCell ⟨b, i, none⟩ v) (some b) :=
  ⟨h.os, h.tape, h.output, by simpa [World.setCell] using h.size, fun k hk hne => (Below.heap_setCell _ _ _ _ (by intro e; exact hne (by rw [e]))).trans (h.block k hk hne)⟩
theorem Cel1.kept {w w' : World} {c : Nat} {v : Value} {row : Option Nat} (h : Cel1 w c v) (g : w.grownBy w' row) (hne : some c ≠ row) : Cel1 w' c v :=
  ⟨(World.cell?_of_block (a := ⟨c, 0, none⟩) (g.block c h.2.2 hne)).trans h.1, (World.frozen?_of_block (a := ⟨c, 0, none⟩) (g.block c h.2.2 hne)).trans h.2.1, Nat.lt_of_lt_of_le h.2.2 g.size⟩
theorem Row.kept {w w' : World} {c : Nat} {ps : List (Int × Int)} {row : Option Nat} (h : Row w c ps) (g : w.grownBy w' row) (hne : some c ≠ row) : Row w' c ps := by
  refine ⟨Nat.lt_of_lt_of_le h.1 g.size, fun i hi => ?_⟩
  obtain ⟨⟨h1, h2⟩, h3, h4⟩ := h.2 i hi
  have e := g.block c h.1 hne
  exact ⟨⟨(World.cell?_of_block (a := ⟨c, i * 2, none⟩) e).trans h1, (World.cell?_of_block (a := ⟨c, i * 2 + 1, none⟩) e).trans h2⟩, (World.frozen?_of_block (a := ⟨c, i * 2, none⟩) e).trans h3, (World.frozen?_of_block (a := ⟨c, i * 2 + 1, none⟩) e).trans h4⟩
theorem InRow.kept {w w' : World} {a : Option Addr} {len cap : Nat} {ps : List (Int × Int)} {row : Option Nat} (h : InRow w a len cap ps) (g : w.grownBy w' row) (hne : ∀ q, a = some q → some q.block ≠ row) : InRow w' a len cap ps := by
  obtain ⟨h1, h2, h3, h4, h5⟩ := h
  refine ⟨h1, h2, h3, h4, ?_⟩
  rcases h5 with h5 | ⟨b, off, q1, q2, q3⟩
  · exact .inl h5
  · refine .inr ⟨b, off, q1, Nat.lt_of_lt_of_le q2 g.size, fun i hi => ?_⟩
    have e := g.block b q2 (hne _ q1)
    exact ⟨(World.cell?_of_block (a := ⟨b, off + i * 2, none⟩) e).trans (q3 i hi).1, (World.cell?_of_block (a := ⟨b, off + (i * 2 + 1), none⟩) e).trans (q3 i hi).2⟩

def marks (k : Int) (n : Nat) : List (Int × Int) := (List.range n).map (fun (i : Nat) => (k + 2 * (i : Int), k + 2 * (i : Int) + 1))
theorem marks_length (k : Int) (n : Nat) : (marks k n).length = n := by simp [marks]
theorem marks_getD (k : Int) {n i : Nat} (h : i < n) : (marks k n).getD i (0, 0) = (k + 2 * (i : Int), k + 2 * (i : Int) + 1) := by
  simp [marks, List.getD_eq_getElem?_getD, h]
theorem marks_fits {k : Int} {n : Nat} (h0 : 0 ≤ k) (h1 : k ≤ 16777216) (hn : n ≤ 1048576) : Fits (marks k n) := by
  intro p hp
  unfold marks at hp
  obtain ⟨i, hi, rfl⟩ := List.mem_map.1 hp
  have := List.mem_range.1 hi
  dsimp only
  omega

set_option maxHeartbeats 2000000 in
theorem lMarks (b cap : Nat) (ps : List (Int × Int)) (k : Int) (w : World) (hr : Row w b ps) (hl : ps.length ≤ 1048576) (k0 : 0 ≤ k) (k1 : k ≤ 16777216) :
    Calls Try.prog 21 #[.slice (some ⟨b, 0, none⟩) ps.length cap, .int .i64 k] w fun e w' => e = .returned (.int .i64 (k + 2 * ps.length)) ∧ Row w' b (marks k ps.length) ∧ w.grownBy w' (some b) := by
  go_enter Try.func21, Try.ntmps21
  go_wp2
  go_loopw [1, 5] (fun s i wr => ∃ (j : Nat) (qs : List (Int × Int)), j ≤ ps.length ∧ s = .int .i64 (k + 2 * j) ∧ i = .int .i64 j ∧ Upto j qs (marks k ps.length) ∧ Row wr b qs ∧ w.grownBy wr (some b)) (fun _ b _ => ps.length - (intOf b).toNat)
  case atStart => exact ⟨0, ps, by omega, by simp, rfl, ⟨by rw [marks_length], fun i h => absurd h (by omega)⟩, hr, World.grownBy.refl _ _⟩
  case round =>
    obtain ⟨j, qs, hj, rfl, rfl, hu, hrr, hg⟩ := hrel
    have hql : qs.length = ps.length := by rw [hu.1, marks_length]
    by_cases hlt : j < ps.length
    · obtain ⟨x', y', -, d0, d1, d2, d3⟩ := hrr.at (k := j) (by omega)
      have hst := hrr.set j (by omega) (k + 2 * j) (k + 2 * j + 1)
      have hup := hu.step (by rw [marks_length]; omega)
      rw [marks_getD k hlt] at hup
      go_wp2
      go_roundw
      case rel => exact ⟨j + 1, _, by omega, by go_num, by go_num, hup, hst, grown_setE (grown_setE hg _ _) _ _⟩
      case measure => simp [intOf]; omega
    · obtain rfl : j = ps.length := by omega
      have hq : qs = marks k ps.length := Upto.all (by rw [marks_length]; exact hu)
      subst hq
      go_wp2
      go_ret
      exact ⟨rfl, hrr, hg⟩
set_option maxHeartbeats 1000000 in
theorem lMarksNone (a : Option Addr) (cap : Nat) (k : Int) (w : World) :
    Calls Try.prog 21 #[.slice a 0 cap, .int .i64 k] w fun e w' => e = .returned (.int .i64 k) ∧ w' = w := by
  go_enter Try.func21, Try.ntmps21
  go_wp2
  go_loopw [1, 5] (fun s i wr => s = .int .i64 k ∧ i = .int .i64 0 ∧ wr = w) (fun _ _ _ => 0)
  case atStart => exact ⟨rfl, rfl, rfl⟩
  case round =>
    obtain ⟨rfl, rfl, rfl⟩ := hrel
    go_wp2
    go_ret
    exact ⟨rfl, rfl⟩
set_option maxHeartbeats 2000000 in
theorem lHeld (a : Option Addr) (cap n : Nat) (k : Int) (w : World) (hR : InRow w a n cap (marks k n)) (hl : n ≤ 1048576) (k0 : 0 ≤ k) (k1 : k ≤ 16777216) :
    Calls Try.prog 22 #[.slice a n cap, .int .i64 k] w fun e w' => e = .returned (.int .i64 (k + 2 * n)) ∧ w' = w := by
  go_enter Try.func22, Try.ntmps22
  go_wp2
  go_loopw [1, 5] (fun s i wr => ∃ j : Nat, j ≤ n ∧ s = .int .i64 (k + 2 * j) ∧ i = .int .i64 j ∧ wr = w) (fun _ b _ => n - (intOf b).toNat)
  case atStart => exact ⟨0, by omega, by simp, rfl, rfl⟩
  case round =>
    obtain ⟨j, hj, rfl, rfl, rfl⟩ := hrel
    by_cases hlt : j < n
    · obtain ⟨b, off, x, y, rfl, hbl, hx, -, c0, c1⟩ := hR.at hlt
      rw [marks_getD k hlt] at hx
      obtain ⟨rfl, rfl⟩ := Prod.mk.inj hx
      go_wp2
      go_roundw
      case rel => exact ⟨j + 1, by omega, by go_num, by go_num, trivial⟩
      case measure => simp [intOf]; omega
    · obtain rfl : j = n := by omega
      go_wp2
      go_ret
      exact ⟨rfl, rfl⟩
set_option maxHeartbeats 1000000 in
theorem lMarkBox (b cap : Nat) (ps : List (Int × Int)) (k : Int) (w : World) (hr : Row w b ps) (hl : ps.length ≤ 1048576) (k0 : 0 ≤ k) (k1 : k ≤ 16777216) :
    Calls Try.prog 10 #[.agg #[.slice (some ⟨b, 0, none⟩) ps.length cap], .int .i64 k] w fun e w' => e = .returned (.int .i64 (k + 2 * ps.length)) ∧ Row w' b (marks k ps.length) ∧ w.grownBy w' (some b) := by
  have h0 := hr.old ((Below.refl _ w).alloc (Nat.le_refl _) (.cells #[.slice (some ⟨b, 0, none⟩) ps.length cap] 30))
  have g0 : w.grownBy (w.alloc (.cells #[.slice (some ⟨b, 0, none⟩) ps.length cap] 30)) (some b) := World.grownBy_alloc w _ _
  have H := hd (lMarks b cap ps k _ h0 hl k0 k1)
  go_enter Try.func10, Try.ntmps10
  go_wp2_with (go_at_call 21; refine H.out.mono ?_; rintro e w1 ⟨rfl, hr1, hg1⟩)
  go_ret
  exact ⟨rfl, hr1, g0.trans hg1⟩
set_option maxHeartbeats 1000000 in
theorem lMarkBoxNone (a : Option Addr) (cap : Nat) (k : Int) (w : World) :
    Calls Try.prog 10 #[.agg #[.slice a 0 cap], .int .i64 k] w fun e w' => e = .returned (.int .i64 k) ∧ Below w.heap.size w w' := by
  have H := hd (lMarksNone a cap k)
  go_enter Try.func10, Try.ntmps10
  go_wp2_with (go_at_call 21; refine (H.out _).mono ?_; rintro e w1 ⟨rfl, rfl⟩)
  go_ret
  exact ⟨rfl, (by repeat (first | exact Below.refl _ _ | refine Below.drew ?_ | refine old_alloc ?_ _ | refine old_trans ?_ (by assumption)))⟩
set_option maxHeartbeats 1000000 in
theorem lHeldBox (a : Option Addr) (cap n : Nat) (k : Int) (w : World) (hR : InRow w a n cap (marks k n)) (hl : n ≤ 1048576) (k0 : 0 ≤ k) (k1 : k ≤ 16777216) :
    Calls Try.prog 11 #[.agg #[.slice a n cap], .int .i64 k] w fun e w' => e = .returned (.int .i64 (k + 2 * n)) ∧ Below w.heap.size w w' := by
  have H := hd (lHeld a cap n k _ (hR.alloc (.cells #[.slice a n cap] 30)) hl k0 k1)
  have hk : 0 ≤ k + 2 * (n : Int) := by omega
  go_enter Try.func11, Try.ntmps11
  go_wp2_with (go_at_call 22; refine H.out.mono ?_; rintro e w1 ⟨rfl, rfl⟩)
  go_ret
  exact ⟨rfl, (by repeat (first | exact Below.refl _ _ | refine Below.drew ?_ | refine old_alloc ?_ _ | refine old_trans ?_ (by assumption)))⟩
end Go.Proofs.Ytekbhkklaogmnaa

/- A new box of what is made at each place; nothing, if one is not made: of whatever function that answers so at each place and writes nothing that was there. Conditions: 2^20 places at most. -/
namespace Go.Proofs.Ytekbhkklaogmnaa
open Go.RowKit
set_option linter.unusedVariables false
set_option maxRecDepth 100000

/-- what is made at the first n places -/
def madeL (n : Nat) (x y : Nat → Int) : List (Int × Int) := (List.range n).map (fun i => (x i, y i))
theorem madeL_length (n : Nat) (x y : Nat → Int) : (madeL n x y).length = n := by simp [madeL]
end Go.Proofs.Ytekbhkklaogmnaa

/- What the specification's loops over append leave: a list that grew by one pair a round, in memory of its own. Conditions: 2^20 pairs at most. -/
namespace Go.Proofs.Ytekbhkklaogmnaa
open Go.RowKit
set_option linter.unusedVariables false
set_option maxRecDepth 100000

def flat (ps : List (Int × Int)) : List Value := ps.flatMap (fun p => [.int .i64 p.1, .int .i64 p.2])
theorem flat_length (ps : List (Int × Int)) : (flat ps).length = ps.length * 2 := by
  induction ps with
  | nil => rfl
  | cons p ps ih => show (_ :: _ :: flat ps).length = _; simp [ih]; omega
theorem flat_snoc (ps : List (Int × Int)) (x y : Int) : flat (ps ++ [(x, y)]) = flat ps ++ [.int .i64 x, .int .i64 y] := by simp [flat]
theorem flat_get : ∀ (ps : List (Int × Int)) (i : Nat), i < ps.length → (flat ps)[i * 2]? = some (.int .i64 (ps.getD i (0, 0)).1) ∧ (flat ps)[i * 2 + 1]? = some (.int .i64 (ps.getD i (0, 0)).2)
  | [], _, h => absurd h (by simp)
  | p :: ps, 0, _ => ⟨rfl, rfl⟩
  | p :: ps, i + 1, h => by
    have := flat_get ps i (by simpa using h)
    show ((_ :: _ :: flat ps) : List Value)[(i + 1) * 2]? = _ ∧ ((_ :: _ :: flat ps) : List Value)[(i + 1) * 2 + 1]? = _
    rw [show (i + 1) * 2 = i * 2 + 1 + 1 by omega, show i * 2 + 1 + 1 + 1 = (i * 2 + 1) + 1 + 1 by omega]
    simpa using this
/-- a list that is being made -/
def Grows (w : World) (base : Nat) (v : Value) (ps : List (Int × Int)) : Prop := w.ownsRow base 34 2 v ps.length (flat ps)
theorem Grows.nil (w : World) (base : Nat) : Grows w base (.slice none 0 0) [] := World.ownsRow_nil w base _ _
theorem Grows.kept {w w' : World} {base : Nat} {v : Value} {ps : List (Int × Int)} {row : Option Nat} (h : Grows w base v ps) (g : w.grownBy w' row) (hne : ∀ b, row = some b → b < base) : Grows w' base v ps := by
  refine World.ownsRow.kept h g ?_
  cases hv : v.ownBlock with
  | none => exact .inl rfl
  | some k =>
    refine .inr (fun e => ?_)
    have := hne k e.symm
    have := (World.ownsRow.lt h k hv).1
    omega
theorem grown_belowE {w w' : World} (h : Below w.heap.size w w') : w.grownBy w' none := ⟨h.1, h.2, h.3, h.4, fun k hk _ => h.5 k hk⟩
theorem Grows.later {w w' : World} {base : Nat} {v : Value} {ps : List (Int × Int)} (h : Grows w base v ps) (g : Below w.heap.size w w') : Grows w' base v ps := h.kept (grown_belowE g) (by simp)
theorem Grows.alloc {w : World} {base : Nat} {v : Value} {ps : List (Int × Int)} (h : Grows w base v ps) (o : Obj) : Grows (w.alloc o) base v ps := h.later ((Below.refl _ _).alloc (Nat.le_refl _) o)
theorem Grows.set {w : World} {base b : Nat} {v : Value} {ps : List (Int × Int)} (h : Grows w base v ps) (hb : b < base) (u : Value) : Grows (w.setCell ⟨b, 0, none⟩ u) base v ps := h.kept (grownBy_setCell' w b u) (fun c e => by cases e; exact hb)
theorem Grows.far {w : World} {base : Nat} {v : Value} {ps : List (Int × Int)} (h : Grows w base v ps) {c : Nat} (hc : c < base) : some c ≠ v.ownBlock := fun e => by have := (World.ownsRow.lt h c e.symm).1; omega
theorem Grows.row {w : World} {base : Nat} {v : Value} {ps : List (Int × Int)} (h : Grows w base v ps) (hp : 0 < ps.length) : ∃ g cap, v = .slice (some ⟨g, 0, none⟩) ps.length cap ∧ base ≤ g ∧ ps.length ≤ cap ∧ cap ≤ maxLen ∧ Row w g ps := by
  have h' := h
  rcases h.2 with ⟨_, h0⟩ | ⟨g, cap, cur, rfl, hb, hg, h1, h2, -, -⟩
  · omega
  refine ⟨g, cap, rfl, hb, h1, h2, (Array.getElem?_eq_some_iff.1 hg).1, fun i hi => ?_⟩
  have f := flat_get ps i hi
  exact ⟨⟨(World.ownsRow.cellAt h' (i * 2) (by omega)).trans f.1, (World.ownsRow.cellAt h' (i * 2 + 1) (by omega)).trans f.2⟩, World.ownsRow.frozenAt h' _, World.ownsRow.frozenAt h' _⟩
theorem cells_two (w : World) (b : Nat) (hb : b = w.heap.size) (x y : Value) (t : TypeId) : ∀ j u, [x, y][j]? = some u → (w.alloc (.cells #[x, y] t)).cell? ((⟨b, 0, none⟩ : Addr).add j) = some u := by
  subst hb
  intro j u h
  match j, h with
  | 0, h => simp at h; subst h; simp [Addr.add]
  | 1, h => simp at h; subst h; simp [Addr.add]
  | j + 2, h => simp at h
theorem madeL_snoc (k : Nat) (x y : Nat → Int) : madeL (k + 1) x y = madeL k x y ++ [(x k, y k)] := by simp [madeL, List.range_succ]
end Go.Proofs.Ytekbhkklaogmnaa
