/- How many units of fuel a box can use: the specification's loop with its early ends, the program's product held down at each coordinate. No condition. -/
import Derived.Test.YtmeijbiohbpgpaaB7
namespace Go.Proofs.Ytmeijbiohbpgpaa
open Go.RowKit
set_option linter.unusedVariables false

def unitI (g : Int) : Int := if g = 0 then 1 else if 250000000 < g then 1000000000 else 4 * g - 1
theorem unitI_bd {g : Int} (h : 0 ≤ g) : 1 ≤ unitI g ∧ unitI g ≤ 1000000000 := by unfold unitI; split <;> (try split) <;> omega
def unitsG (ps : List (Int × Int)) : Nat → Int
  | 0 => 1
  | k + 1 => min (unitsG ps k * unitI (gapAt ps k)) 1000000000
def unitsRow (wd : Int) (ps : List (Int × Int)) : Int := if okRow wd ps then unitsG ps ps.length else 0
theorem unitsG_bd {ps : List (Int × Int)} {n : Nat} (hb : ∀ j, j < n → 0 ≤ gapAt ps j) : ∀ k, k ≤ n → 1 ≤ unitsG ps k ∧ unitsG ps k ≤ 1000000000
  | 0, _ => by show 1 ≤ (1 : Int) ∧ (1 : Int) ≤ _; omega
  | k + 1, h => by
    have h1 := unitsG_bd hb k (by omega)
    have h2 := unitI_bd (hb k (by omega))
    have h3 : 1 * 1 ≤ unitsG ps k * unitI (gapAt ps k) := Int.mul_le_mul h1.1 h2.1 (by omega) (by omega)
    show 1 ≤ min _ _ ∧ min _ _ ≤ _
    omega
theorem unitsG_top {ps : List (Int × Int)} {n : Nat} (hb : ∀ j, j < n → 0 ≤ gapAt ps j) {k : Nat} (h : unitsG ps k = 1000000000) : ∀ m, k + m ≤ n → unitsG ps (k + m) = 1000000000
  | 0, _ => h
  | m + 1, hm => by
    have h1 := unitsG_top hb h m (by omega)
    have h2 := unitI_bd (hb (k + m) (by omega))
    show min (unitsG ps (k + m) * unitI (gapAt ps (k + m))) 1000000000 = 1000000000
    rw [h1]
    omega

set_option maxHeartbeats 4000000 in
theorem sBoxUnits (wd : Int) (a : Option Addr) (len cap : Nat) (ps : List (Int × Int)) (w : World) (hR : InRow w a len cap ps) :
    Calls Try.prog 37 #[.int .i64 wd, .agg #[.slice a len cap]] w fun e w' => e = .returned (.int .i64 (unitsRow wd ps)) ∧ Below w.heap.size w w' := by
  have hlen : len ≤ maxLen := Nat.le_trans hR.2.1 hR.2.2.1
  have hp := hR.1
  unfold maxLen at hlen
  have K : Cel1 (w.alloc (.cells #[.slice a len cap] 29)) w.heap.size (.slice a len cap) := Cel1.made w _ rfl _ _
  have hR3 := hR.alloc (.cells #[.slice a len cap] 29)
  have S := hd (sBoxOk wd a len cap ps _ hR3)
  cases hok : okRow wd ps
  · have hno : Hid (unitsRow wd ps = 0) := by show _ = _; unfold unitsRow; rw [hok]; rfl
    rw [hok] at S
    clear hok
    go_enter Try.func37, Try.ntmps37
    go_wp2_with (go_at_call 16; refine S.out.mono ?_; rintro e w1 ⟨rfl, hb1⟩)
    go_ret
    exact ⟨by rw [hno.out]; rfl, (by repeat (first | exact Below.refl _ _ | refine Below.drew ?_ | refine old_alloc ?_ _ | refine old_trans ?_ (by assumption)))⟩
  rw [hok] at S
  have hol := okRow_len hok
  have hgb : Hid (∀ k, k < len → 0 ≤ gapAt ps k ∧ gapAt ps k ≤ 18446744073709551615) := fun k hk => gapAt_bd hR hk
  have hz : Hid (unitsG ps len = unitsRow wd ps) := by show _ = _; unfold unitsRow; rw [if_pos hok, hp]
  have hub : Hid (∀ k, k ≤ len → 1 ≤ unitsG ps k ∧ unitsG ps k ≤ 1000000000) := unitsG_bd (fun j hj => (hgb.out j hj).1)
  have htop : Hid (∀ k, k < len → unitsG ps (k + 1) = 1000000000 → unitsRow wd ps = 1000000000) := fun k hk h => by
    have := unitsG_top (n := len) (fun j hj => (hgb.out j hj).1) h (len - (k + 1)) (by omega)
    rw [show k + 1 + (len - (k + 1)) = len by omega] at this
    rw [← hz.out]; exact this
  clear hok
  generalize unitsRow wd ps = z at *
  go_enter Try.func37, Try.ntmps37
  go_wp2_with fail
  refine S.out.mono ?_
  rintro e w1 ⟨rfl, hb1⟩
  replace K := K.later hb1
  replace hR3 := hR3.old hb1
  have hb : Below w.heap.size w w1 := (by repeat (first | exact Below.refl _ _ | refine Below.drew ?_ | refine old_alloc ?_ _ | refine old_trans ?_ (by assumption)))
  go_wp2
  go_loopw [5, 6] (fun s i wr => ∃ (n : Int) (k : Nat), k ≤ len ∧ s = .int .i64 n ∧ i = .int .i64 k ∧ Hid (unitsG ps k = n) ∧ n < 1000000000 ∧ Cel1 wr w.heap.size (.slice a len cap) ∧ InRow wr a len cap ps ∧ Below w.heap.size w wr) (fun _ b _ => len - (intOf b).toNat)
  case atStart => exact ⟨1, 0, by omega, rfl, rfl, rfl, by omega, K, hR3, hb⟩
  case round =>
    clear K hR3 hb
    obtain ⟨n, k, hk, rfl, rfl, hn, hnl, K, hRr, hb⟩ := hrel
    obtain ⟨k0, k1, k2⟩ := id K
    have hn1 : 1 ≤ n := by have := (hub.out k hk).1; rw [hn.out] at this; exact this
    by_cases hlt : k < len
    · obtain ⟨b, off, x, y, rfl, hbl, hx, ⟨⟨q1, q2⟩, q3, q4⟩, c0, c1⟩ := hRr.at hlt
      have E := hd (sPGapB x y q1 q2 q3 q4)
      have hg := gapAt_eq hx
      have hgb1 := gapI_bd x y q1 q4
      have hs : unitsG ps (k + 1) = min (n * unitI (gapI x y)) 1000000000 := by rw [← hg, ← hn.out]; rfl
      clear hg
      generalize gapI x y = g at *
      by_cases g0 : g = 0
      · have hs' : Hid (unitsG ps (k + 1) = n) := by show _ = _; rw [hs, g0]; show min (n * 1) _ = n; omega
        clear hs
        subst g0
        go_wp2_with (go_at_call 63; refine (E.out _).mono ?_; rintro e wx ⟨rfl, hbx⟩)
        go_roundw
        case rel => exact ⟨n, k + 1, by omega, rfl, by go_num, hs', hnl, K.later hbx, hRr.old hbx, (by repeat (first | exact hb | exact Below.refl _ _ | refine Below.drew ?_ | refine old_alloc ?_ _ | refine old_trans ?_ (by assumption)))⟩
        case measure => simp [intOf]; omega
      by_cases g1 : 1000000000 < g
      · have hs' : Hid (z = 1000000000) := htop.out k hlt (by rw [hs]; unfold unitI; rw [if_neg g0, if_pos (by omega)]; omega)
        clear hs
        go_wp2_with (go_at_call 63; refine (E.out _).mono ?_; rintro e wx ⟨rfl, hbx⟩)
        go_ret
        exact ⟨by rw [hs'.out]; rfl, (by repeat (first | exact hb | exact Below.refl _ _ | refine Below.drew ?_ | refine old_alloc ?_ _ | refine old_trans ?_ (by assumption)))⟩
      have m1 : n * (4 * g - 1) ≤ 1000000000 * 3999999999 := Int.mul_le_mul (by omega) (by omega) (by omega) (by omega)
      have m2 : 1 * (4 * g - 1) ≤ n * (4 * g - 1) := Int.mul_le_mul hn1 (Int.le_refl _) (by omega) (by omega)
      by_cases g2 : 1000000000 ≤ n * (4 * g - 1)
      · have hs' : Hid (z = 1000000000) := htop.out k hlt (by
          rw [hs]; unfold unitI; rw [if_neg g0]
          split <;> omega)
        clear hs
        generalize hqq : n * (4 * g - 1) = q at *
        go_wp2_with (go_at_call 63; refine (E.out _).mono ?_; rintro e wx ⟨rfl, hbx⟩)
        go_ret
        exact ⟨by rw [hs'.out]; rfl, (by repeat (first | exact hb | exact Below.refl _ _ | refine Below.drew ?_ | refine old_alloc ?_ _ | refine old_trans ?_ (by assumption)))⟩
      · have hs' : Hid (unitsG ps (k + 1) = n * (4 * g - 1)) := by
          show _ = _
          rw [hs]; unfold unitI; rw [if_neg g0, if_neg (by omega)]; omega
        clear hs
        go_wp2_with (go_at_call 63; refine (E.out _).mono ?_; rintro e wx ⟨rfl, hbx⟩)
        go_roundw
        case rel => exact ⟨n * (4 * g - 1), k + 1, by omega, rfl, by go_num, hs', by omega, K.later hbx, hRr.old hbx, (by repeat (first | exact hb | exact Below.refl _ _ | refine Below.drew ?_ | refine old_alloc ?_ _ | refine old_trans ?_ (by assumption)))⟩
        case measure => simp [intOf]; omega
    · obtain rfl : k = len := by omega
      have hyes : Hid (z = n) := hz.out.symm.trans hn.out
      go_wp2
      go_ret
      exact ⟨by rw [hyes.out]; rfl, hb⟩

set_option maxHeartbeats 1000000 in
theorem iUnits (g : Int) (h : 0 ≤ g ∧ g ≤ 18446744073709551615) (w : World) :
    Calls Try.prog 80 #[.agg #[.int .u64 g]] w fun e w' => e = .returned (.int .i64 (unitI g)) ∧ Below w.heap.size w w' := by
  by_cases g0 : g = 0
  · have hu : Hid (unitI g = 1) := by show _ = _; unfold unitI; rw [if_pos g0]
    subst g0
    go_enter Try.func80, Try.ntmps80
    go_wp2
    go_ret
    exact ⟨by rw [hu.out]; rfl, (by repeat (first | exact Below.refl _ _ | refine Below.drew ?_ | refine old_alloc ?_ _ | refine old_trans ?_ (by assumption)))⟩
  by_cases g1 : 250000000 < g
  · have hu : Hid (unitI g = 1000000000) := by show _ = _; unfold unitI; rw [if_neg g0, if_pos g1]
    go_enter Try.func80, Try.ntmps80
    go_wp2
    go_ret
    exact ⟨by rw [hu.out]; rfl, (by repeat (first | exact Below.refl _ _ | refine Below.drew ?_ | refine old_alloc ?_ _ | refine old_trans ?_ (by assumption)))⟩
  · have hu : Hid (unitI g = 4 * g - 1) := by show _ = _; unfold unitI; rw [if_neg g0, if_neg g1]
    go_enter Try.func80, Try.ntmps80
    go_wp2
    go_ret
    exact ⟨by rw [hu.out]; rfl, (by repeat (first | exact Below.refl _ _ | refine Below.drew ?_ | refine old_alloc ?_ _ | refine old_trans ?_ (by assumption)))⟩

set_option maxHeartbeats 1000000 in
theorem iBoxUnits1 (u x y : Int) (hu : 1 ≤ u ∧ u ≤ 1000000000) (q : (-9223372036854775808 ≤ x ∧ x ≤ 9223372036854775807) ∧ -9223372036854775808 ≤ y ∧ y ≤ 9223372036854775807) (w : World) :
    Calls Try.prog 79 #[.int .i64 u, .agg #[.int .i64 x, .int .i64 y]] w fun e w' => e = .returned (.int .i64 (min (u * unitI (gapI x y)) 1000000000)) ∧ Below w.heap.size w w' := by
  have E := hd (iCounted x y q.1.1 q.1.2 q.2.1 q.2.2)
  have hgb := gapI_bd x y q.1.1 q.2.2
  generalize gapI x y = g at *
  have f1 := fld_count g x y
  have U := hd (iUnits g hgb)
  have hub := unitI_bd hgb.1
  generalize unitI g = c at *
  have m1 : u * c ≤ 1000000000 * 1000000000 := Int.mul_le_mul hu.2 hub.2 (by omega) (by omega)
  have m2 : 1 * 1 ≤ u * c := Int.mul_le_mul hu.1 hub.1 (by omega) (by omega)
  have hx : Hid (u * c ≤ 1000000000 → min (u * c) 1000000000 = u * c) := fun h => by omega
  have hy : Hid (1000000000 < u * c → min (u * c) 1000000000 = 1000000000) := fun h => by omega
  generalize min (u * c) 1000000000 = z at *
  go_enter Try.func79, Try.ntmps79
  go_wp2_with (first | (go_at_call 65; refine (E.out _).mono ?_; rintro e w1 ⟨rfl, hb1⟩) | (go_at_call 80; refine (U.out _).mono ?_; rintro e w2 ⟨rfl, hb2⟩))
  all_goals
    go_ret
    refine ⟨?_, (by repeat (first | exact Below.refl _ _ | refine Below.drew ?_ | refine old_alloc ?_ _ | refine old_trans ?_ (by assumption)))⟩
    first | rw [hx.out (by assumption)]; rfl | rw [hy.out (by assumption)]; rfl

set_option maxHeartbeats 2000000 in
theorem iBoxUnits (wd : Int) (a : Option Addr) (len cap : Nat) (ps : List (Int × Int)) (w : World) (hR : InRow w a len cap ps) :
    Calls Try.prog 38 #[.int .i64 wd, .agg #[.slice a len cap]] w fun e w' => e = .returned (.int .i64 (unitsRow wd ps)) ∧ Below w.heap.size w w' := by
  have hlen : len ≤ maxLen := Nat.le_trans hR.2.1 hR.2.2.1
  have hp := hR.1
  unfold maxLen at hlen
  have K : Cel1 (w.alloc (.cells #[.slice a len cap] 29)) w.heap.size (.slice a len cap) := Cel1.made w _ rfl _ _
  have hR3 := hR.alloc (.cells #[.slice a len cap] 29)
  have S := hd (iBoxOk wd a len cap ps _ hR3)
  cases hok : okRow wd ps
  · have hno : Hid (unitsRow wd ps = 0) := by show _ = _; unfold unitsRow; rw [hok]; rfl
    rw [hok] at S
    clear hok
    go_enter Try.func38, Try.ntmps38
    go_wp2_with (go_at_call 18; refine S.out.mono ?_; rintro e w1 ⟨rfl, hb1⟩)
    go_ret
    exact ⟨by rw [hno.out]; rfl, (by repeat (first | exact Below.refl _ _ | refine Below.drew ?_ | refine old_alloc ?_ _ | refine old_trans ?_ (by assumption)))⟩
  rw [hok] at S
  have hol := okRow_len hok
  have hgb : ∀ k, k < len → 0 ≤ gapAt ps k ∧ gapAt ps k ≤ 18446744073709551615 := fun k hk => gapAt_bd hR hk
  have hz : Hid (unitsG ps len = unitsRow wd ps) := by show _ = _; unfold unitsRow; rw [if_pos hok, hp]
  clear hok
  generalize unitsRow wd ps = z at *
  go_enter Try.func38, Try.ntmps38
  go_wp2_with fail
  refine S.out.mono ?_
  rintro e w1 ⟨rfl, hb1⟩
  replace K := K.later hb1
  replace hR3 := hR3.old hb1
  have k0 := K.1
  have k2 := K.2.2
  go_wp2_with fail
  refine (foldN 79 a len cap ps (unitsG ps) _ hR3 (enters_of Try.func79 (by kernel_rfl) rfl) (fun k x y W hk hx hq hW => by
    have := iBoxUnits1 (unitsG ps k) x y (unitsG_bd (fun j hj => (hgb j hj).1) k (by omega)) hq W
    rw [← gapAt_eq hx] at this
    exact this)).mono ?_
  rintro e w2 ⟨he, hb2⟩
  rw [hz.out] at he
  subst he
  go_wp2
  go_ret
  exact ⟨rfl, (by repeat (first | exact Below.refl _ _ | refine Below.drew ?_ | refine old_alloc ?_ _ | refine old_trans ?_ (by assumption)))⟩
end Go.Proofs.Ytmeijbiohbpgpaa
