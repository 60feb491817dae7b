/- Whether a box is one: by the specification's loop, and by the program's search for a wrong coordinate. No condition. -/
import Derived.Test.YtlggbihdmabifaaGreatDoorPK41
import Derived.Test.YtlggbihdmabifaaGreatDoorPK42
namespace Go.Proofs.YtlggbihdmabifaaGreatDoor
open Go.RowKit
set_option linter.unusedVariables false
set_option maxRecDepth 100000

def okRow (wd : Int) (ps : List (Int × Int)) : Bool := decide (1 ≤ ps.length) && (decide (ps.length ≤ 6) && ps.all (fun p => pokB wd p.1 p.2))
theorem okRow_short {wd : Int} {ps : List (Int × Int)} (h : ps.length < 1) : okRow wd ps = false := by unfold okRow; simp [show ¬ 1 ≤ ps.length by omega]
theorem okRow_long {wd : Int} {ps : List (Int × Int)} (h : 6 < ps.length) : okRow wd ps = false := by unfold okRow; simp [show ¬ ps.length ≤ 6 by omega]
theorem okRow_no {wd : Int} {ps : List (Int × Int)} {k : Nat} (hk : k < ps.length) {x y : Int} (hx : ps.getD k (0, 0) = (x, y)) (h : pokB wd x y = false) : okRow wd ps = false := by
  unfold okRow
  have : ps.all (fun p => pokB wd p.1 p.2) = false := by
    rw [List.all_eq_false]
    refine ⟨(x, y), ?_, by simp [h]⟩
    rw [← hx, List.getD_eq_getElem?_getD, List.getElem?_eq_getElem hk]
    exact List.getElem_mem _
  simp [this]
theorem okRow_yes {wd : Int} {ps : List (Int × Int)} (h1 : 1 ≤ ps.length) (h2 : ps.length ≤ 6) (h : ∀ k, k < ps.length → pokB wd (ps.getD k (0, 0)).1 (ps.getD k (0, 0)).2 = true) : okRow wd ps = true := by
  unfold okRow
  have : ps.all (fun p => pokB wd p.1 p.2) = true := by
    rw [List.all_eq_true]
    intro p hp
    obtain ⟨k, hk, rfl⟩ := List.getElem_of_mem hp
    have := h k hk
    rw [List.getD_eq_getElem?_getD, List.getElem?_eq_getElem hk] at this
    exact this
  simp [this, h1, h2]

set_option maxHeartbeats 2000000 in
theorem sBoxOk (wd : Int) (a : Option Addr) (len cap : Nat) (ps : List (Int × Int)) (w : World) (hR : InRow w a len cap ps) :
    Calls Tryz.prog 14 #[.int .i64 wd, .agg #[.slice a len cap]] w fun e w' => e = .returned (.bool (okRow wd ps)) ∧ Below w.heap.size w w' := by
  have hlen : len ≤ maxLen := Nat.le_trans hR.2.1 hR.2.2.1
  have hp := hR.1
  unfold maxLen at hlen
  by_cases c1 : len < 1
  · rw [okRow_short (by omega)]
    go_enter Tryz.func14, Tryz.ntmps14
    go_wp2
    go_ret
    exact ⟨rfl, (by repeat (first | exact Below.refl _ _ | refine Below.drew ?_ | refine old_alloc ?_ _ | refine old_trans ?_ (by assumption)))⟩
  by_cases c2 : 6 < len
  · rw [okRow_long (by omega)]
    go_enter Tryz.func14, Tryz.ntmps14
    go_wp2
    go_ret
    exact ⟨rfl, (by repeat (first | exact Below.refl _ _ | refine Below.drew ?_ | refine old_alloc ?_ _ | refine old_trans ?_ (by assumption)))⟩
  have b3 := Cel1.made w _ rfl (.slice a len cap) 31
  have hb3 : Below w.heap.size w (w.alloc (.cells #[.slice a len cap] 31)) := (Below.refl _ w).alloc (Nat.le_refl _) _
  have hR3 := hR.old hb3
  go_enter Tryz.func14, Tryz.ntmps14
  go_wp2
  go_loopw [5] (fun i wr => ∃ k : Nat, k ≤ len ∧ i = .int .i64 k ∧ Hid (∀ j, j < k → pokB wd (ps.getD j (0, 0)).1 (ps.getD j (0, 0)).2 = true) ∧ Cel1 wr w.heap.size (.slice a len cap) ∧ InRow wr a len cap ps ∧ Below w.heap.size w wr) (fun b _ => len - (intOf b).toNat)
  case atStart => exact ⟨0, by omega, rfl, fun j hj => absurd hj (by omega), b3, hR3, hb3⟩
  case round =>
    obtain ⟨k, hk, rfl, hall, K, hRr, hb⟩ := hrel
    obtain ⟨k0, k1, k2⟩ := id K
    by_cases hlt : k < len
    · obtain ⟨b, off, x, y, rfl, hbl, hx, -, c0, c1'⟩ := hRr.at hlt
      have E := hd (sPairOk wd x y)
      cases hpk : pokB wd x y
      · rw [hpk] at E
        have hno : Hid (okRow wd ps = false) := okRow_no (by omega) hx hpk
        clear hpk
        go_wp2_with (go_at_call 25; refine (E.out _).mono ?_; rintro e w1 ⟨rfl, hb1⟩)
        go_ret
        exact ⟨by rw [hno.out]; rfl, (by repeat (first | exact hb | exact Below.refl _ _ | refine Below.drew ?_ | refine old_alloc ?_ _ | refine old_trans ?_ (by assumption)))⟩
      · have hall' : Hid (∀ j, j < k + 1 → pokB wd (ps.getD j (0, 0)).1 (ps.getD j (0, 0)).2 = true) := by
          intro j hj
          by_cases e : j = k
          · subst e; rw [hx]; exact hpk
          · exact hall j (by omega)
        rw [hpk] at E
        clear hpk
        go_wp2_with (go_at_call 25; refine (E.out _).mono ?_; rintro e w1 ⟨rfl, hb1⟩)
        go_roundw
        case rel => exact ⟨k + 1, by omega, by go_num, hall', K.later hb1, hRr.old hb1, (by repeat (first | exact hb | exact Below.refl _ _ | refine Below.drew ?_ | refine old_alloc ?_ _ | refine old_trans ?_ (by assumption)))⟩
        case measure => simp [intOf]; omega
    · obtain rfl : k = len := by omega
      have hyes : Hid (okRow wd ps = true) := okRow_yes (by omega) (by omega) (hp ▸ hall)
      go_wp2
      go_ret
      exact ⟨by rw [hyes.out]; rfl, hb⟩

theorem firstI_neg {len : Nat} {p : Nat → Bool} : decide (firstI len p < 0) = (List.range len).all (fun k => !p k) := by
  unfold firstI
  split
  · rename_i k h
    have := List.find?_some h
    have hm := List.mem_of_find?_eq_some h
    rw [Bool.eq_iff_iff]
    simp only [decide_eq_true_eq, List.all_eq_true]
    constructor
    · intro h; omega
    · intro h; have := h k hm; simp_all
  · rename_i h
    rw [List.find?_eq_none] at h
    rw [Bool.eq_iff_iff]
    simp only [decide_eq_true_eq, List.all_eq_true]
    constructor
    · intro _ x hx; simpa using h x hx
    · intro _; omega

set_option maxHeartbeats 2000000 in
theorem iBoxOk1 (wd : Int) (a : Option Addr) (len cap : Nat) (ps : List (Int × Int)) (B C k : Nat) (hk : k < len) (w : World) (hR : InRow w a len cap ps) (hB : w.cell? ⟨B, 0, none⟩ = some (.int .i64 wd)) (hC : w.cell? ⟨C, 0, none⟩ = some (.slice a len cap)) :
    Calls Tryz.prog 33 #[.int .i64 (k : Int), .pointer (some ⟨B, 0, none⟩), .pointer (some ⟨C, 0, none⟩)] w fun e w' => e = .returned (.bool (!pokB wd (ps.getD k (0, 0)).1 (ps.getD k (0, 0)).2)) ∧ Below w.heap.size w w' := by
  have hlen : len ≤ maxLen := Nat.le_trans hR.2.1 hR.2.2.1
  unfold maxLen at hlen
  obtain ⟨b, off, x, y, rfl, hbl, hx, -, c0, c1⟩ := hR.at hk
  rw [hx]
  have E := hd (iPairOk wd x y)
  dsimp only
  generalize pokB wd x y = r at *
  go_enter Tryz.func33, Tryz.ntmps33
  go_wp2_with fail
  go_region_with (go_at_call 34; refine (E.out _).mono ?_; rintro e w1 ⟨rfl, hb1⟩)
  all_goals
    go_wp2
    go_ret
    exact ⟨rfl, (by repeat (first | exact Below.refl _ _ | refine Below.drew ?_ | refine old_alloc ?_ _ | refine old_trans ?_ (by assumption)))⟩

theorem okRow_first {wd : Int} {ps : List (Int × Int)} (h1 : ¬ ps.length < 1) (h2 : ¬ 6 < ps.length) : decide (firstI ps.length (fun k => !pokB wd (ps.getD k (0, 0)).1 (ps.getD k (0, 0)).2) < 0) = okRow wd ps := by
  rw [firstI_neg]
  cases h : (List.range ps.length).all (fun k => !(!pokB wd (ps.getD k (0, 0)).1 (ps.getD k (0, 0)).2))
  · rw [List.all_eq_false] at h
    obtain ⟨k, hk, hn⟩ := h
    rw [List.mem_range] at hk
    rw [okRow_no (k := k) hk (x := (ps.getD k (0, 0)).1) (y := (ps.getD k (0, 0)).2) rfl (by simpa only [Bool.not_not, Bool.not_eq_true] using hn)]
  · rw [List.all_eq_true] at h
    rw [okRow_yes (by omega) (by omega) (fun k hk => by simpa using h k (List.mem_range.2 hk))]

set_option maxHeartbeats 2000000 in
theorem iBoxOk (wd : Int) (a : Option Addr) (len cap : Nat) (ps : List (Int × Int)) (w : World) (hR : InRow w a len cap ps) :
    Calls Tryz.prog 18 #[.int .i64 wd, .agg #[.slice a len cap]] w fun e w' => e = .returned (.bool (okRow wd ps)) ∧ Below w.heap.size w w' := by
  have hlen : len ≤ maxLen := Nat.le_trans hR.2.1 hR.2.2.1
  have hlen' := hlen
  obtain rfl := hR.1
  unfold maxLen at hlen
  by_cases c1 : ps.length < 1
  · rw [okRow_short (by omega)]
    go_enter Tryz.func18, Tryz.ntmps18
    go_wp2
    go_ret
    exact ⟨rfl, (by repeat (first | exact Below.refl _ _ | refine Below.drew ?_ | refine old_alloc ?_ _ | refine old_trans ?_ (by assumption)))⟩
  by_cases c2 : 6 < ps.length
  · rw [okRow_long (by omega)]
    go_enter Tryz.func18, Tryz.ntmps18
    go_wp2
    go_ret
    exact ⟨rfl, (by repeat (first | exact Below.refl _ _ | refine Below.drew ?_ | refine old_alloc ?_ _ | refine old_trans ?_ (by assumption)))⟩
  have hz := okRow_first (wd := wd) c1 c2
  have b2 : Cel1 ((w.alloc (.cells #[.int .i64 wd] 3)).alloc (.cells #[.slice a ps.length cap] 31)) w.heap.size (.int .i64 wd) := (Cel1.made w _ rfl _ _).alloc _
  have b3 : Cel1 ((w.alloc (.cells #[.int .i64 wd] 3)).alloc (.cells #[.slice a ps.length cap] 31)) (w.heap.size + 1) (.slice a ps.length cap) := Cel1.made _ _ (by simp) _ _
  have hb3 : Below w.heap.size w ((w.alloc (.cells #[.int .i64 wd] 3)).alloc (.cells #[.slice a ps.length cap] 31)) := ((Below.refl _ w).alloc (Nat.le_refl _) _).alloc (by simp) _
  have hR3 := hR.old hb3
  have H := hd (coordThat 33 #[.pointer (some ⟨w.heap.size, 0, none⟩), .pointer (some ⟨w.heap.size + 1, 0, none⟩)] a ps.length cap hlen' (fun k => !pokB wd (ps.getD k (0, 0)).1 (ps.getD k (0, 0)).2) _ (enters_of Tryz.func33 (by kernel_rfl) rfl)
    (fun k W hk hW => iBoxOk1 wd a ps.length cap ps w.heap.size (w.heap.size + 1) k hk W (hR3.old hW) (b2.later hW).1 (b3.later hW).1))
  generalize firstI ps.length _ = r at *
  go_enter Tryz.func18, Tryz.ntmps18
  go_wp2_with (go_at_call 19; refine H.out.mono ?_; rintro e w1 ⟨rfl, hb1⟩)
  go_ret
  exact ⟨by rw [← hz]; rfl, (by repeat (first | exact Below.refl _ _ | refine Below.drew ?_ | refine old_alloc ?_ _ | refine old_trans ?_ (by assumption)))⟩
end Go.Proofs.YtlggbihdmabifaaGreatDoor

/- What the laws over boxes carry from call to call. No condition. -/
namespace Go.Proofs.YtlggbihdmabifaaGreatDoor
open Go.RowKit
set_option linter.unusedVariables false
set_option maxRecDepth 100000

theorem Cel1.drew {w : World} {b : Nat} {x : Value} (h : Cel1 w b x) : Cel1 w.drew b x := h
theorem InRow.drew {w : World} {a : Option Addr} {len cap : Nat} {ps : List (Int × Int)} (h : InRow w a len cap ps) : InRow w.drew a len cap ps := h
theorem InRow.alloc {w : World} {a : Option Addr} {len cap : Nat} {ps : List (Int × Int)} (h : InRow w a len cap ps) (o : Obj) : InRow (w.alloc o) a len cap ps := h.old ((Below.refl _ _).alloc (Nat.le_refl _) o)
theorem InRow.set {w : World} {a : Option Addr} {len cap : Nat} {ps : List (Int × Int)} (h : InRow w a len cap ps) (p : Addr) (v : Value) (hne : ∀ q, a = some q → q.block ≠ p.block) : InRow (w.setCell p v) a len cap ps := by
  obtain ⟨h1, h2, h3, h4, h5⟩ := h
  refine ⟨h1, h2, h3, h4, ?_⟩
  rcases h5 with h5 | ⟨b, off, q1, q2, q3⟩
  · exact .inl h5
  · refine .inr ⟨b, off, q1, by simpa [World.setCell] using q2, fun i hi => ?_⟩
    have hn := hne _ q1
    rw [World.cell?_setCell_other _ _ _ _ (by intro e; subst e; exact hn rfl), World.cell?_setCell_other _ _ _ _ (by intro e; subst e; exact hn rfl)]
    exact q3 i hi

theorem toBoxI (a : Option Addr) (cap : Nat) (ps : List (Int × Int)) (w : World) (hR : InRow w a ps.length cap ps) (hl : ps.length ≤ 1048576) :
    Calls Tryz.prog 7 #[.agg #[.slice a ps.length cap]] w fun e w' => (∃ b, e = .returned (.agg #[.slice (some ⟨b, 0, none⟩) ps.length ps.length]) ∧ w.heap.size ≤ b ∧ InRow w' (some ⟨b, 0, none⟩) ps.length ps.length ps) ∧ Below w.heap.size w w' := by
  refine (lToBox a ps.length cap ps w hR hl).mono ?_
  rintro e w' ⟨⟨b, he, hb, hr⟩, h⟩
  exact ⟨⟨b, he, hb, hr.inRow hR.2.2.2.1 (Nat.le_refl _) (Nat.le_trans hR.2.1 hR.2.2.1)⟩, h⟩
end Go.Proofs.YtlggbihdmabifaaGreatDoor
