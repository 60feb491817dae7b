/- The coordinate with the most steps: the specification's loop, the program's greatest count and the first coordinate that has it. No condition. -/
import Derived.Test.YtmeijbiohbpgpaaB6
import Derived.Test.YtmeijbiohbpgpaaC2
namespace Go.Proofs.Ytmeijbiohbpgpaa
open Go.RowKit
set_option linter.unusedVariables false

def maxG (ps : List (Int × Int)) : Nat → Int
  | 0 => 0
  | k + 1 => max (maxG ps k) (gapAt ps k)
def widest (wd : Int) (ps : List (Int × Int)) : Int := if okRow wd ps then firstI ps.length (fun k => gapAt ps k == maxG ps ps.length) else -1
theorem maxG_le {ps : List (Int × Int)} {m : Int} (h0 : 0 ≤ m) : ∀ n, (∀ j, j < n → gapAt ps j ≤ m) → maxG ps n ≤ m
  | 0, _ => h0
  | n + 1, h => by
    have h1 := maxG_le h0 n (fun j hj => h j (by omega))
    have h2 := h n (by omega)
    show max _ _ ≤ m
    omega
theorem le_maxG {ps : List (Int × Int)} : ∀ n j, j < n → gapAt ps j ≤ maxG ps n
  | 0, _, h => by omega
  | n + 1, j, h => by
    show _ ≤ max _ _
    by_cases e : j = n
    · subst e; omega
    · have := le_maxG (ps := ps) n j (by omega); omega
theorem maxG_bd {ps : List (Int × Int)} (hb : ∀ j, j < ps.length → 0 ≤ gapAt ps j ∧ gapAt ps j ≤ 18446744073709551615) : ∀ n, n ≤ ps.length → 0 ≤ maxG ps n ∧ maxG ps n ≤ 18446744073709551615
  | 0, _ => by show 0 ≤ (0 : Int) ∧ (0 : Int) ≤ _; omega
  | n + 1, h => by
    have h1 := maxG_bd hb n (by omega)
    have h2 := hb n (by omega)
    show 0 ≤ max _ _ ∧ max _ _ ≤ _
    omega
theorem firstI_at {n b : Nat} {p : Nat → Bool} (hb : b < n) (h : p b = true) (hn : ∀ j, j < b → p j = false) : firstI n p = b := by
  unfold firstI
  have : (List.range n).find? p = some b := List.find?_range_eq_some.2 ⟨h, List.mem_range.2 hb, fun j hj => by simp [hn j hj]⟩
  rw [this]
theorem widest_eq {wd : Int} {ps : List (Int × Int)} {b : Nat} (hok : okRow wd ps = true) (hb : b < ps.length) (h0 : 0 ≤ gapAt ps b) (h1 : ∀ j, j < ps.length → gapAt ps j ≤ gapAt ps b) (h2 : ∀ j, j < b → gapAt ps j < gapAt ps b) : widest wd ps = b := by
  have e : maxG ps ps.length = gapAt ps b := Int.le_antisymm (maxG_le h0 _ h1) (le_maxG _ b hb)
  unfold widest
  rw [if_pos hok, e]
  refine firstI_at hb (by simp) (fun j hj => ?_)
  have := h2 j hj
  simp; omega
theorem okRow_len {wd : Int} {ps : List (Int × Int)} (h : okRow wd ps = true) : 1 ≤ ps.length ∧ ps.length ≤ 6 := by
  unfold okRow at h
  simp at h
  omega
theorem gapAt_bd {w : World} {a : Option Addr} {len cap : Nat} {ps : List (Int × Int)} (hR : InRow w a len cap ps) {k : Nat} (hk : k < len) : 0 ≤ gapAt ps k ∧ gapAt ps k ≤ 18446744073709551615 := by
  obtain ⟨b, off, x, y, -, -, hx, ⟨⟨q1, q2⟩, q3, q4⟩, -, -⟩ := hR.at hk
  rw [gapAt_eq hx]
  exact gapI_bd x y q1 q4

set_option maxHeartbeats 4000000 in
theorem sBoxWidest (wd : Int) (a : Option Addr) (len cap : Nat) (ps : List (Int × Int)) (w : World) (hR : InRow w a len cap ps) :
    Calls Try.prog 28 #[.int .i64 wd, .agg #[.slice a len cap]] w fun e w' => e = .returned (.int .i64 (widest wd ps)) ∧ Below w.heap.size w w' := by
  have hlen : len ≤ maxLen := Nat.le_trans hR.2.1 hR.2.2.1
  have hp := hR.1
  unfold maxLen at hlen
  have K : Cel1 (w.alloc (.cells #[.slice a len cap] 29)) w.heap.size (.slice a len cap) := Cel1.made w _ rfl _ _
  have hR3 := hR.alloc (.cells #[.slice a len cap] 29)
  have S := hd (sBoxOk wd a len cap ps _ hR3)
  cases hok : okRow wd ps
  · have hno : Hid (widest wd ps = -1) := by show _ = _; unfold widest; rw [hok]; rfl
    rw [hok] at S
    clear hok
    go_enter Try.func28, Try.ntmps28
    go_wp2_with (go_at_call 16; refine S.out.mono ?_; rintro e w1 ⟨rfl, hb1⟩)
    go_ret
    exact ⟨by rw [hno.out]; rfl, (by repeat (first | exact Below.refl _ _ | refine Below.drew ?_ | refine old_alloc ?_ _ | refine old_trans ?_ (by assumption)))⟩
  rw [hok] at S
  have hol := okRow_len hok
  have hgb : Hid (∀ k, k < len → 0 ≤ gapAt ps k ∧ gapAt ps k ≤ 18446744073709551615) := fun k hk => gapAt_bd hR hk
  have hfin : Hid (∀ b : Nat, b < len → 0 ≤ gapAt ps b → (∀ j, j < len → gapAt ps j ≤ gapAt ps b) → (∀ j, j < b → gapAt ps j < gapAt ps b) → widest wd ps = b) := fun b h1 h2 h3 h4 => widest_eq hok (by omega) h2 (hp ▸ h3) h4
  clear hok
  have hst : Hid ((∀ j, j < 1 → gapAt ps j ≤ gapAt ps 0) ∧ ∀ j, j < 0 → gapAt ps j < gapAt ps 0) := ⟨fun j hj => (by rw [show j = 0 by omega]; exact Int.le_refl _), fun j hj => absurd hj (by omega)⟩
  generalize widest wd ps = z at *
  go_enter Try.func28, Try.ntmps28
  go_wp2_with fail
  refine S.out.mono ?_
  rintro e w1 ⟨rfl, hb1⟩
  replace K := K.later hb1
  replace hR3 := hR3.old hb1
  have hb : Below w.heap.size w w1 := (by repeat (first | exact Below.refl _ _ | refine Below.drew ?_ | refine old_alloc ?_ _ | refine old_trans ?_ (by assumption)))
  go_wp2
  go_loopw [5, 6] (fun s i wr => ∃ b k : Nat, b < k ∧ k ≤ len ∧ s = .int .i64 b ∧ i = .int .i64 k ∧ Hid ((∀ j, j < k → gapAt ps j ≤ gapAt ps b) ∧ ∀ j, j < b → gapAt ps j < gapAt ps b) ∧ Cel1 wr w.heap.size (.slice a len cap) ∧ InRow wr a len cap ps ∧ Below w.heap.size w wr) (fun _ b _ => len - (intOf b).toNat)
  case atStart => exact ⟨0, 1, by omega, by omega, rfl, rfl, hst, K, hR3, hb⟩
  case round =>
    clear K hR3 hb
    obtain ⟨p, k, hpk, hk, rfl, rfl, hall, K, hRr, hb⟩ := hrel
    obtain ⟨k0, k1, k2⟩ := id K
    by_cases hlt : k < len
    · obtain ⟨b, off, x, y, ha, hbl, hx, ⟨⟨q1, q2⟩, q3, q4⟩, c0, c1⟩ := hRr.at hlt
      obtain ⟨b', off', x', y', rfl, hbl', hx', ⟨⟨r1, r2⟩, r3, r4⟩, d0, d1⟩ := hRr.at (k := p) (by omega)
      obtain ⟨rfl, rfl⟩ : b = b' ∧ off = off' := by injection ha with ha; injection ha with h1 h2; exact ⟨h1.symm, h2.symm⟩
      clear ha
      have E := hd (sPGapB x y q1 q2 q3 q4)
      have E' := hd (sPGapB x' y' r1 r2 r3 r4)
      have hg := gapAt_eq hx
      have hg' := gapAt_eq hx'
      have hgb1 := gapI_bd x y q1 q4
      have hgb2 := gapI_bd x' y' r1 r4
      generalize gapI x y = g at *
      generalize gapI x' y' = g' at *
      by_cases hlt' : g' < g
      · have hall' : Hid ((∀ j, j < k + 1 → gapAt ps j ≤ gapAt ps k) ∧ ∀ j, j < k → gapAt ps j < gapAt ps k) := by
          refine ⟨fun j hj => ?_, fun j hj => ?_⟩
          · by_cases e : j = k
            · subst e; exact Int.le_refl _
            · have := hall.1 j (by omega); omega
          · have := hall.1 j hj; omega
        clear hg hg'
        go_wp2_with fail
        go_region_with (first | (go_at_call_of 63 (Value.agg #[.int .i64 x, .int .i64 y]); refine (E.out _).mono ?_; rintro e wx ⟨rfl, hbx⟩; have c0 := cell_later hbx c0; have c1 := cell_later hbx c1; have d0 := cell_later hbx d0; have d1 := cell_later hbx d1; have k0 := cell_later hbx k0) | (go_at_call_of 63 (Value.agg #[.int .i64 x', .int .i64 y']); refine (E'.out _).mono ?_; rintro e wx ⟨rfl, hbx⟩; have c0 := cell_later hbx c0; have c1 := cell_later hbx c1; have d0 := cell_later hbx d0; have d1 := cell_later hbx d1; have k0 := cell_later hbx k0))
        all_goals
          go_wp2
          go_roundw
          case rel => exact ⟨k, k + 1, by omega, by omega, rfl, by go_num, hall', K.later (by repeat (first | exact Below.refl _ _ | refine Below.drew ?_ | refine old_alloc ?_ _ | refine old_trans ?_ (by assumption))), hRr.old (by repeat (first | exact Below.refl _ _ | refine Below.drew ?_ | refine old_alloc ?_ _ | refine old_trans ?_ (by assumption))), (by repeat (first | exact hb | exact Below.refl _ _ | refine Below.drew ?_ | refine old_alloc ?_ _ | refine old_trans ?_ (by assumption)))⟩
          case measure => simp [intOf]; omega
      · have hall' : Hid ((∀ j, j < k + 1 → gapAt ps j ≤ gapAt ps p) ∧ ∀ j, j < p → gapAt ps j < gapAt ps p) := by
          refine ⟨fun j hj => ?_, hall.2⟩
          by_cases e : j = k
          · subst e; omega
          · exact hall.1 j (by omega)
        clear hg hg'
        go_wp2_with fail
        go_region_with (first | (go_at_call_of 63 (Value.agg #[.int .i64 x, .int .i64 y]); refine (E.out _).mono ?_; rintro e wx ⟨rfl, hbx⟩; have c0 := cell_later hbx c0; have c1 := cell_later hbx c1; have d0 := cell_later hbx d0; have d1 := cell_later hbx d1; have k0 := cell_later hbx k0) | (go_at_call_of 63 (Value.agg #[.int .i64 x', .int .i64 y']); refine (E'.out _).mono ?_; rintro e wx ⟨rfl, hbx⟩; have c0 := cell_later hbx c0; have c1 := cell_later hbx c1; have d0 := cell_later hbx d0; have d1 := cell_later hbx d1; have k0 := cell_later hbx k0))
        all_goals
          go_wp2
          go_roundw
          case rel => exact ⟨p, k + 1, by omega, by omega, rfl, by go_num, hall', K.later (by repeat (first | exact Below.refl _ _ | refine Below.drew ?_ | refine old_alloc ?_ _ | refine old_trans ?_ (by assumption))), hRr.old (by repeat (first | exact Below.refl _ _ | refine Below.drew ?_ | refine old_alloc ?_ _ | refine old_trans ?_ (by assumption))), (by repeat (first | exact hb | exact Below.refl _ _ | refine Below.drew ?_ | refine old_alloc ?_ _ | refine old_trans ?_ (by assumption)))⟩
          case measure => simp [intOf]; omega
    · obtain rfl : k = len := by omega
      have hyes : Hid (z = (p : Int)) := hfin.out p (by omega) (hgb.out p (by omega)).1 hall.1 hall.2
      go_wp2
      go_ret
      exact ⟨by rw [hyes.out]; rfl, hb⟩

set_option maxHeartbeats 1000000 in
theorem iBoxWidest1 (g x y : Int) (hg : 0 ≤ g ∧ g ≤ 18446744073709551615) (q : (-9223372036854775808 ≤ x ∧ x ≤ 9223372036854775807) ∧ -9223372036854775808 ≤ y ∧ y ≤ 9223372036854775807) (w : World) :
    Calls Try.prog 67 #[.int .u64 g, .agg #[.int .i64 x, .int .i64 y]] w fun e w' => e = .returned (.int .u64 (max g (gapI x y))) ∧ Below w.heap.size w w' := by
  have E := hd (iCounted x y q.1.1 q.1.2 q.2.1 q.2.2)
  have hgb := gapI_bd x y q.1.1 q.2.2
  generalize gapI x y = h at *
  have f1 := fld_count h x y
  have f2 := fld_steps h
  have hx : Hid (g < h → max g h = h) := fun h => by omega
  have hy : Hid (h ≤ g → max g h = g) := fun h => by omega
  generalize max g h = z at *
  go_enter Try.func67, Try.ntmps67
  go_wp2_with (go_at_call 65; refine (E.out _).mono ?_; rintro e w1 ⟨rfl, hb1⟩)
  all_goals
    go_ret
    refine ⟨?_, (by repeat (first | exact Below.refl _ _ | refine Below.drew ?_ | refine old_alloc ?_ _ | refine old_trans ?_ (by assumption)))⟩
    first | rw [hx.out (by assumption)]; rfl | rw [hy.out (by assumption)]; rfl

set_option maxHeartbeats 2000000 in
theorem iBoxWidest2 (m : Int) (hm : 0 ≤ m ∧ m ≤ 18446744073709551615) (a : Option Addr) (len cap : Nat) (ps : List (Int × Int)) (B C k : Nat) (hk : k < len) (w : World) (hR : InRow w a len cap ps) (hB : w.cell? ⟨B, 0, none⟩ = some (.slice a len cap)) (hC : w.cell? ⟨C, 0, none⟩ = some (.int .u64 m)) :
    Calls Try.prog 68 #[.int .i64 (k : Int), .pointer (some ⟨B, 0, none⟩), .pointer (some ⟨C, 0, none⟩)] w fun e w' => e = .returned (.bool (gapAt ps k == m)) ∧ Below w.heap.size w w' := by
  have hlen : len ≤ maxLen := Nat.le_trans hR.2.1 hR.2.2.1
  unfold maxLen at hlen
  obtain ⟨b, off, x, y, rfl, hbl, hx, ⟨⟨q1, q2⟩, q3, q4⟩, c0, c1⟩ := hR.at hk
  rw [gapAt_eq hx]
  have E := hd (iCounted x y q1 q2 q3 q4)
  have hgb := gapI_bd x y q1 q4
  generalize gapI x y = g at *
  have f1 := fld_count g x y
  have f2 := fld_steps g
  go_enter Try.func68, Try.ntmps68
  go_wp2_with fail
  go_region_with (go_at_call 65; refine (E.out _).mono ?_; rintro e w1 ⟨rfl, hb1⟩; have d0 := cell_later hb1 hC)
  all_goals
    go_wp2
    go_ret
    exact ⟨rfl, (by repeat (first | exact Below.refl _ _ | refine Below.drew ?_ | refine old_alloc ?_ _ | refine old_trans ?_ (by assumption)))⟩

set_option maxHeartbeats 2000000 in
theorem iBoxWidest (wd : Int) (a : Option Addr) (len cap : Nat) (ps : List (Int × Int)) (w : World) (hR : InRow w a len cap ps) :
    Calls Try.prog 29 #[.int .i64 wd, .agg #[.slice a len cap]] w fun e w' => e = .returned (.int .i64 (widest wd ps)) ∧ Below w.heap.size w w' := by
  have hlen : len ≤ maxLen := Nat.le_trans hR.2.1 hR.2.2.1
  have hlen' := hlen
  have hp := hR.1
  unfold maxLen at hlen
  have K : Cel1 (w.alloc (.cells #[.slice a len cap] 29)) w.heap.size (.slice a len cap) := Cel1.made w _ rfl _ _
  have hR3 := hR.alloc (.cells #[.slice a len cap] 29)
  have S := hd (iBoxOk wd a len cap ps _ hR3)
  cases hok : okRow wd ps
  · have hno : Hid (widest wd ps = -1) := by show _ = _; unfold widest; rw [hok]; rfl
    rw [hok] at S
    clear hok
    go_enter Try.func29, Try.ntmps29
    go_wp2_with (go_at_call 18; refine S.out.mono ?_; rintro e w1 ⟨rfl, hb1⟩)
    go_ret
    exact ⟨by rw [hno.out]; rfl, (by repeat (first | exact Below.refl _ _ | refine Below.drew ?_ | refine old_alloc ?_ _ | refine old_trans ?_ (by assumption)))⟩
  rw [hok] at S
  have hz : Hid (firstI len (fun k => gapAt ps k == maxG ps len) = widest wd ps) := by show _ = _; unfold widest; rw [if_pos hok, hp]
  clear hok
  have hmb := maxG_bd (ps := ps) (fun j hj => gapAt_bd hR (by omega))
  have hml := hmb len (by omega)
  generalize widest wd ps = z at *
  go_enter Try.func29, Try.ntmps29
  go_wp2_with fail
  refine S.out.mono ?_
  rintro e w1 ⟨rfl, hb1⟩
  replace K := K.later hb1
  replace hR3 := hR3.old hb1
  have k0 := K.1
  have k2 := K.2.2
  go_wp2_with fail
  refine (foldU 67 a len cap ps (maxG ps) _ hR3 (enters_of Try.func67 (by kernel_rfl) rfl) (fun k x y W hk hx hq hW => by
    have := iBoxWidest1 (maxG ps k) x y (hmb k (by omega)) hq W
    rw [← gapAt_eq hx] at this
    exact this)).mono ?_
  rintro e w2 ⟨rfl, hb2⟩
  clear k0 k2
  replace K := K.later hb2
  replace hR3 := hR3.old hb2
  have k0 := K.1
  have k2 := K.2.2
  generalize maxG ps len = m at *
  have M : Cel1 (w2.alloc (.cells #[.int .u64 m] 64)) w2.heap.size (.int .u64 m) := Cel1.made _ _ rfl _ _
  go_wp2_with fail
  refine (coordThat 68 #[.pointer (some ⟨w.heap.size, 0, none⟩), .pointer (some ⟨w2.heap.size, 0, none⟩)] a len cap hlen' (fun k => gapAt ps k == m) _ (enters_of Try.func68 (by kernel_rfl) rfl)
    (fun k W hk hW => iBoxWidest2 m hml a len cap ps w.heap.size w2.heap.size k hk W ((hR3.alloc _).old hW) ((K.alloc _).later hW).1 (M.later hW).1)).mono ?_
  rintro e w3 ⟨he, hb3⟩
  rw [hz.out] at he
  subst he
  go_wp2
  go_ret
  exact ⟨rfl, (by repeat (first | exact Below.refl _ _ | refine Below.drew ?_ | refine old_alloc ?_ _ | refine old_trans ?_ (by assumption)))⟩
end Go.Proofs.Ytmeijbiohbpgpaa
