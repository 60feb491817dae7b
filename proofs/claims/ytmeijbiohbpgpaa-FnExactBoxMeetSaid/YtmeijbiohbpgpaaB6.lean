/- Whether few floats stand between the bounds of each coordinate: the specification's loop, the program's search. No condition. -/
import Derived.Test.YtmeijbiohbpgpaaB5
namespace Go.Proofs.Ytmeijbiohbpgpaa
open Go.RowKit
set_option linter.unusedVariables false

def gapAt (ps : List (Int × Int)) (k : Nat) : Int := gapI (ps.getD k (0, 0)).1 (ps.getD k (0, 0)).2
theorem gapAt_eq {ps : List (Int × Int)} {k : Nat} {x y : Int} (h : ps.getD k (0, 0) = (x, y)) : gapAt ps k = gapI x y := by unfold gapAt; rw [h]
def mostI (bt : Int) : Int := min (max bt 1) 1000000 + 1
theorem mostI_bd (bt : Int) : 2 ≤ mostI bt ∧ mostI bt ≤ 1000001 := by unfold mostI; omega
def fineAt (ps : List (Int × Int)) (m : Int) (k : Nat) : Bool := decide (gapAt ps k ≤ m)
def fineRow (wd : Int) (ps : List (Int × Int)) (bt : Int) : Bool := okRow wd ps && allI ps.length (fineAt ps (mostI bt))

set_option maxHeartbeats 4000000 in
theorem sBoxFine (wd bt : Int) (b1 : -9223372036854775808 ≤ bt ∧ bt ≤ 9223372036854775807) (a : Option Addr) (len cap : Nat) (ps : List (Int × Int)) (w : World) (hR : InRow w a len cap ps) :
    Calls Try.prog 26 #[.int .i64 wd, .agg #[.slice a len cap], .int .i64 bt] w fun e w' => e = .returned (.bool (fineRow wd ps bt)) ∧ Below w.heap.size w w' := by
  have hlen : len ≤ maxLen := Nat.le_trans hR.2.1 hR.2.2.1
  have hp := hR.1
  unfold maxLen at hlen
  have K : Cel1 (w.alloc (.cells #[.slice a len cap] 29)) w.heap.size (.slice a len cap) := Cel1.made w _ rfl _ _
  have hR3 := hR.alloc (.cells #[.slice a len cap] 29)
  have S := hd (sBoxOk wd a len cap ps _ hR3)
  cases hok : okRow wd ps
  · have hno : Hid (fineRow wd ps bt = false) := by show _ = _; unfold fineRow; rw [hok]; rfl
    rw [hok] at S
    clear hok
    go_enter Try.func26, Try.ntmps26
    go_wp2_with (go_at_call 16; refine S.out.mono ?_; rintro e w1 ⟨rfl, hb1⟩)
    go_ret
    exact ⟨by rw [hno.out]; rfl, (by repeat (first | exact Below.refl _ _ | refine Below.drew ?_ | refine old_alloc ?_ _ | refine old_trans ?_ (by assumption)))⟩
  rw [hok] at S
  have hr : Hid (fineRow wd ps bt = allI len (fineAt ps (mostI bt))) := by show _ = _; unfold fineRow; rw [hok, hp]; rfl
  have hm : Hid (min (max bt 1) 1000000 + 1 = mostI bt) := rfl
  have hmb := mostI_bd bt
  have hm1 : 1 ≤ min (max bt 1) 1000000 ∧ min (max bt 1) 1000000 ≤ 1000000 := by omega
  clear hok
  generalize mostI bt = m at *
  generalize fineRow wd ps bt = z at *
  have H1 := hd (fun w => sMax bt 1 w)
  have H2 := hd (fun w => sMin (max bt 1) 1000000 w)
  generalize max bt 1 = u at *
  generalize min u 1000000 = v at *
  obtain rfl := hm.out
  go_enter Try.func26, Try.ntmps26
  go_wp2_with fail
  refine S.out.mono ?_
  rintro e w1 ⟨rfl, hb1⟩
  replace K := K.later hb1
  replace hR3 := hR3.old hb1
  have hb : Below w.heap.size w w1 := (by repeat (first | exact Below.refl _ _ | refine Below.drew ?_ | refine old_alloc ?_ _ | refine old_trans ?_ (by assumption)))
  go_wp2_with (first | (go_at_call 62; refine (H1.out _).mono ?_; rintro e w2 ⟨rfl, rfl⟩) | (go_at_call 61; refine (H2.out _).mono ?_; rintro e w2 ⟨rfl, rfl⟩))
  go_loopw [8] (fun i wr => ∃ k : Nat, k ≤ len ∧ i = .int .i64 k ∧ Hid (∀ j, j < k → fineAt ps (v + 1) j = true) ∧ Cel1 wr w.heap.size (.slice a len cap) ∧ InRow wr a len cap ps ∧ Below w.heap.size w wr) (fun b _ => len - (intOf b).toNat)
  case atStart => exact ⟨0, by omega, rfl, fun j hj => absurd hj (by omega), K, hR3, hb⟩
  case round =>
    clear K hR3 hb
    obtain ⟨k, hk, rfl, hall, K, hRr, hb⟩ := hrel
    obtain ⟨k0, k1, k2⟩ := id K
    by_cases hlt : k < len
    · obtain ⟨b, off, x, y, rfl, hbl, hx, ⟨⟨q1, q2⟩, q3, q4⟩, c0, c1'⟩ := hRr.at hlt
      have E := hd (sPGapB x y q1 q2 q3 q4)
      have hg := gapAt_eq hx
      have hgb := gapI_bd x y q1 q4
      have hf : fineAt ps (v + 1) k = decide (gapI x y ≤ v + 1) := by unfold fineAt; rw [hg]
      clear hg
      generalize gapI x y = g at *
      by_cases hpk : g ≤ v + 1
      · have hall' : Hid (∀ j, j < k + 1 → fineAt ps (v + 1) j = true) := by
          intro j hj
          by_cases e : j = k
          · subst e; rw [hf]; simpa using hpk
          · exact hall j (by omega)
        clear hf
        go_wp2_with (go_at_call 63; refine (E.out _).mono ?_; rintro e w3 ⟨rfl, hb3⟩)
        go_roundw
        case rel => exact ⟨k + 1, by omega, by go_num, hall', K.later hb3, hRr.old hb3, (by repeat (first | exact hb | exact Below.refl _ _ | refine Below.drew ?_ | refine old_alloc ?_ _ | refine old_trans ?_ (by assumption)))⟩
        case measure => simp [intOf]; omega
      · have hno : Hid (z = false) := hr.out.trans (allI_no hlt (by rw [hf]; simpa using hpk))
        clear hf
        go_wp2_with (go_at_call 63; refine (E.out _).mono ?_; rintro e w3 ⟨rfl, hb3⟩)
        go_ret
        exact ⟨by rw [hno.out]; rfl, (by repeat (first | exact hb | exact Below.refl _ _ | refine Below.drew ?_ | refine old_alloc ?_ _ | refine old_trans ?_ (by assumption)))⟩
    · obtain rfl : k = len := by omega
      have hyes : Hid (z = true) := hr.out.trans (allI_yes hall)
      go_wp2
      go_ret
      exact ⟨by rw [hyes.out]; rfl, hb⟩

set_option maxHeartbeats 2000000 in
theorem iBoxFine1 (m : Int) (hm : 0 ≤ m ∧ m ≤ 18446744073709551615) (a : Option Addr) (len cap : Nat) (ps : List (Int × Int)) (B C k : Nat) (hk : k < len) (w : World) (hR : InRow w a len cap ps) (hB : w.cell? ⟨B, 0, none⟩ = some (.slice a len cap)) (hC : w.cell? ⟨C, 0, none⟩ = some (.int .u64 m)) (hCl : C < w.heap.size) :
    Calls Try.prog 64 #[.int .i64 (k : Int), .pointer (some ⟨B, 0, none⟩), .pointer (some ⟨C, 0, none⟩)] w fun e w' => e = .returned (.bool (decide (m < gapAt ps k))) ∧ Below w.heap.size w w' := by
  have hlen : len ≤ maxLen := Nat.le_trans hR.2.1 hR.2.2.1
  unfold maxLen at hlen
  obtain ⟨b, off, x, y, rfl, hbl, hx, ⟨⟨q1, q2⟩, q3, q4⟩, c0, c1⟩ := hR.at hk
  rw [gapAt_eq hx]
  have E := hd (iCounted x y q1 q2 q3 q4)
  have hgb := gapI_bd x y q1 q4
  generalize gapI x y = g at *
  have f1 := fld_count g x y
  have f2 := fld_steps g
  go_enter Try.func64, Try.ntmps64
  go_wp2_with fail
  go_region_with (go_at_call 65; refine (E.out _).mono ?_; rintro e w1 ⟨rfl, hb1⟩; have d0 : w1.cell? ⟨C, 0, none⟩ = some (.int .u64 m) := (hb1.cell (p := ⟨C, 0, none⟩) hCl).trans hC)
  all_goals
    go_wp2
    go_ret
    exact ⟨rfl, (by repeat (first | exact Below.refl _ _ | refine Below.drew ?_ | refine old_alloc ?_ _ | refine old_trans ?_ (by assumption)))⟩

set_option maxHeartbeats 2000000 in
theorem iBoxFine (wd bt : Int) (b1 : -9223372036854775808 ≤ bt ∧ bt ≤ 9223372036854775807) (a : Option Addr) (len cap : Nat) (ps : List (Int × Int)) (w : World) (hR : InRow w a len cap ps) :
    Calls Try.prog 27 #[.int .i64 wd, .agg #[.slice a len cap], .int .i64 bt] w fun e w' => e = .returned (.bool (fineRow wd ps bt)) ∧ Below w.heap.size w w' := by
  have hlen : len ≤ maxLen := Nat.le_trans hR.2.1 hR.2.2.1
  have hlen' := hlen
  have hp := hR.1
  unfold maxLen at hlen
  have K : Cel1 (w.alloc (.cells #[.slice a len cap] 29)) w.heap.size (.slice a len cap) := Cel1.made w _ rfl _ _
  have hR3 := hR.alloc (.cells #[.slice a len cap] 29)
  have S := hd (iBoxOk wd a len cap ps _ hR3)
  cases hok : okRow wd ps
  · have hno : Hid (fineRow wd ps bt = false) := by show _ = _; unfold fineRow; rw [hok]; rfl
    rw [hok] at S
    clear hok
    go_enter Try.func27, Try.ntmps27
    go_wp2_with (go_at_call 18; refine S.out.mono ?_; rintro e w1 ⟨rfl, hb1⟩)
    go_ret
    exact ⟨by rw [hno.out]; rfl, (by repeat (first | exact Below.refl _ _ | refine Below.drew ?_ | refine old_alloc ?_ _ | refine old_trans ?_ (by assumption)))⟩
  rw [hok] at S
  have hmb := mostI_bd bt
  have hm1 : 1 ≤ min (max bt 1) 1000000 ∧ min (max bt 1) 1000000 ≤ 1000000 := by omega
  have hz : Hid (decide (firstI len (fun k => decide (mostI bt < gapAt ps k)) < 0) = fineRow wd ps bt) := by
    show _ = _
    unfold fineRow
    rw [hok, hp, Bool.true_and]
    refine firstI_all (fun k _ => ?_)
    show decide (mostI bt < gapAt ps k) = !decide (gapAt ps k ≤ mostI bt)
    rw [← decide_not]; congr 1; rw [eq_iff_iff]; omega
  clear hok
  have hm : Hid (min (max bt 1) 1000000 + 1 = mostI bt) := rfl
  generalize mostI bt = m at *
  generalize fineRow wd ps bt = z at *
  go_enter Try.func27, Try.ntmps27
  go_wp2_with fail
  refine S.out.mono ?_
  rintro e w1 ⟨rfl, hb1⟩
  replace K := K.later hb1
  replace hR3 := hR3.old hb1
  have k0 := K.1
  have k2 := K.2.2
  have hcs : (bt < 1 ∧ m = 2) ∨ (1 ≤ bt ∧ bt ≤ 1000000 ∧ m = bt + 1) ∨ (1000000 < bt ∧ m = 1000001) := by have := hm.out; omega
  have M : Cel1 (w1.alloc (.cells #[.int .u64 m] 64)) w1.heap.size (.int .u64 m) := Cel1.made _ _ rfl _ _
  clear hm hm1
  rcases hcs with ⟨h1, rfl⟩ | ⟨h1, h2, rfl⟩ | ⟨h1, rfl⟩
  all_goals
    go_wp2_with (go_at_call 48; refine (coordThat 64 #[.pointer (some ⟨w.heap.size, 0, none⟩), .pointer (some ⟨w1.heap.size, 0, none⟩)] a len cap hlen' _ _ (enters_of Try.func64 (by kernel_rfl) rfl) (fun k W hk hW => iBoxFine1 _ (by omega) a len cap ps w.heap.size w1.heap.size k hk W ((hR3.alloc _).old hW) ((K.alloc _).later hW).1 (M.later hW).1 (M.later hW).2.2)).mono ?_; rintro e w2 ⟨rfl, hb2⟩; generalize firstI len _ = r at *)
    go_ret
    exact ⟨by rw [← hz.out]; rfl, (by repeat (first | exact Below.refl _ _ | refine Below.drew ?_ | refine old_alloc ?_ _ | refine old_trans ?_ (by assumption)))⟩
end Go.Proofs.Ytmeijbiohbpgpaa
