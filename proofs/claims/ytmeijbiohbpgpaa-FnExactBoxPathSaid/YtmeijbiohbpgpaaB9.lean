/- How many boxes wait at most below a box: how often each count can be halved, by the specification's loop and by the library's table. No condition. -/
import Derived.Test.YtmeijbiohbpgpaaB7
import Derived.Test.YtmeijbiohbpgpaaB8
import Derived.Test.YtmeijbiohbpgpaaBL
namespace Go.Proofs.Ytmeijbiohbpgpaa
open Go.RowKit
set_option linter.unusedVariables false

theorem hlvI_zero : hlvI 0 = 0 := by decide +kernel
theorem hlvI_half {g : Int} (h0 : 0 < g) (h : g ≤ 18446744073709551615) : hlvI g = 1 + hlvI (g / 2) := by
  have e := Lib.bitLen_half g.toNat (by omega) (by omega)
  have f : (g / 2).toNat = g.toNat / 2 := by omega
  unfold hlvI
  rw [e, f]
  omega
def pathG (ps : List (Int × Int)) : Nat → Int
  | 0 => 1
  | k + 1 => pathG ps k + hlvI (gapAt ps k)
def pathRow (wd : Int) (ps : List (Int × Int)) : Int := if okRow wd ps then pathG ps ps.length else 0
theorem pathG_bd {ps : List (Int × Int)} {n : Nat} (hb : ∀ j, j < n → 0 ≤ gapAt ps j ∧ gapAt ps j ≤ 18446744073709551615) : ∀ k, k ≤ n → 1 ≤ pathG ps k ∧ pathG ps k ≤ 1 + 64 * k
  | 0, _ => by show 1 ≤ (1 : Int) ∧ (1 : Int) ≤ _; omega
  | k + 1, h => by
    have h1 := pathG_bd hb k (by omega)
    have h2 := hlvI_bd (hb k (by omega))
    show 1 ≤ pathG ps k + hlvI (gapAt ps k) ∧ pathG ps k + hlvI (gapAt ps k) ≤ _
    omega

set_option maxHeartbeats 1000000 in
theorem sHalvings (g : Int) (h : 0 ≤ g ∧ g ≤ 18446744073709551615) (w : World) :
    Calls Try.prog 81 #[.int .u64 g] w fun e w' => e = .returned (.int .i64 (hlvI g)) ∧ w' = w := by
  have hbd := hlvI_bd h
  go_enter Try.func81, Try.ntmps81
  go_wp2
  go_loop [0, 3] (fun a b => ∃ (x n : Int), a = .int .u64 x ∧ b = .int .i64 n ∧ 0 ≤ x ∧ x ≤ 18446744073709551615 ∧ 0 ≤ n ∧ n ≤ 64 ∧ Hid (n + hlvI x = hlvI g)) (fun a _ => (intOf a).toNat)
  case atStart => exact ⟨g, 0, rfl, rfl, h.1, h.2, by omega, by omega, by show _ = _; omega⟩
  case round =>
    obtain ⟨x, n, rfl, rfl, x0, x1, n0, n1, hn⟩ := hrel
    by_cases hlt : 0 < x
    · have hs := hlvI_half hlt x1
      have hx2 := hlvI_bd (g := x / 2) (by omega)
      have hn' : Hid (n + 1 + hlvI (x / 2) = hlvI g) := by show _ = _; have := hn.out; omega
      have hn2 : n + 1 ≤ 64 := by have := hn.out; omega
      clear hs hx2
      go_wp2
      go_round
      case rel => exact ⟨x / 2, n + 1, rfl, by go_num, by omega, by omega, by omega, by omega, hn'⟩
      case measure => simp [intOf]; omega
    · obtain rfl : x = 0 := by omega
      have hn' : Hid (n = hlvI g) := by show _ = _; have := hn.out; rw [hlvI_zero] at this; omega
      go_wp2
      go_ret
      exact ⟨by rw [← hn'.out]; rfl, rfl⟩


set_option maxHeartbeats 1000000 in
theorem iHalvings (g : Int) (h : 0 ≤ g ∧ g ≤ 18446744073709551615) (w : World) :
    Calls Try.prog 83 #[.agg #[.int .u64 g]] w fun e w' => e = .returned (.int .i64 (hlvI g)) ∧ Below w.heap.size w w' := by
  have L := hd (iLen64 g h)
  generalize hlvI g = z at *
  go_enter Try.func83, Try.ntmps83
  go_wp2_with (go_at_call 102; refine (L.out _).mono ?_; rintro e w1 ⟨rfl, rfl⟩)
  go_ret
  exact ⟨rfl, (by repeat (first | exact Below.refl _ _ | refine Below.drew ?_ | refine old_alloc ?_ _ | refine old_trans ?_ (by assumption)))⟩
set_option maxHeartbeats 1000000 in
theorem iBoxPath1 (u x y : Int) (hu : 1 ≤ u ∧ u ≤ 1000000000) (q : (-9223372036854775808 ≤ x ∧ x ≤ 9223372036854775807) ∧ -9223372036854775808 ≤ y ∧ y ≤ 9223372036854775807) (w : World) :
    Calls Try.prog 82 #[.int .i64 u, .agg #[.int .i64 x, .int .i64 y]] w fun e w' => e = .returned (.int .i64 (u + hlvI (gapI x y))) ∧ Below w.heap.size w w' := by
  have E := hd (iCounted x y q.1.1 q.1.2 q.2.1 q.2.2)
  have hgb := gapI_bd x y q.1.1 q.2.2
  generalize gapI x y = g at *
  have f1 := fld_count g x y
  have U := hd (iHalvings g hgb)
  have hub := hlvI_bd hgb
  generalize hlvI g = c at *
  go_enter Try.func82, Try.ntmps82
  go_wp2_with (first | (go_at_call 65; refine (E.out _).mono ?_; rintro e w1 ⟨rfl, hb1⟩) | (go_at_call 83; refine (U.out _).mono ?_; rintro e w2 ⟨rfl, hb2⟩))
  go_ret
  exact ⟨rfl, (by repeat (first | exact Below.refl _ _ | refine Below.drew ?_ | refine old_alloc ?_ _ | refine old_trans ?_ (by assumption)))⟩

set_option maxHeartbeats 4000000 in
theorem sBoxPath (wd : Int) (a : Option Addr) (len cap : Nat) (ps : List (Int × Int)) (w : World) (hR : InRow w a len cap ps) :
    Calls Try.prog 39 #[.int .i64 wd, .agg #[.slice a len cap]] w fun e w' => e = .returned (.int .i64 (pathRow wd ps)) ∧ Below w.heap.size w w' := by
  have hlen : len ≤ maxLen := Nat.le_trans hR.2.1 hR.2.2.1
  have hp := hR.1
  unfold maxLen at hlen
  have K : Cel1 (w.alloc (.cells #[.slice a len cap] 29)) w.heap.size (.slice a len cap) := Cel1.made w _ rfl _ _
  have hR3 := hR.alloc (.cells #[.slice a len cap] 29)
  have S := hd (sBoxOk wd a len cap ps _ hR3)
  cases hok : okRow wd ps
  · have hno : Hid (pathRow wd ps = 0) := by show _ = _; unfold pathRow; rw [hok]; rfl
    rw [hok] at S
    clear hok
    go_enter Try.func39, Try.ntmps39
    go_wp2_with (go_at_call 16; refine S.out.mono ?_; rintro e w1 ⟨rfl, hb1⟩)
    go_ret
    exact ⟨by rw [hno.out]; rfl, (by repeat (first | exact Below.refl _ _ | refine Below.drew ?_ | refine old_alloc ?_ _ | refine old_trans ?_ (by assumption)))⟩
  rw [hok] at S
  have hol := okRow_len hok
  have hgb : Hid (∀ k, k < len → 0 ≤ gapAt ps k ∧ gapAt ps k ≤ 18446744073709551615) := fun k hk => gapAt_bd hR hk
  have hz : Hid (pathG ps len = pathRow wd ps) := by show _ = _; unfold pathRow; rw [if_pos hok, hp]
  have hub : Hid (∀ k, k ≤ len → 1 ≤ pathG ps k ∧ pathG ps k ≤ 1 + 64 * k) := pathG_bd (fun j hj => hgb.out j hj)
  clear hok
  generalize pathRow wd ps = z at *
  go_enter Try.func39, Try.ntmps39
  go_wp2_with fail
  refine S.out.mono ?_
  rintro e w1 ⟨rfl, hb1⟩
  replace K := K.later hb1
  replace hR3 := hR3.old hb1
  have hb : Below w.heap.size w w1 := (by repeat (first | exact Below.refl _ _ | refine Below.drew ?_ | refine old_alloc ?_ _ | refine old_trans ?_ (by assumption)))
  go_wp2
  go_loopw [5, 6] (fun s i wr => ∃ (n : Int) (k : Nat), k ≤ len ∧ s = .int .i64 n ∧ i = .int .i64 k ∧ Hid (pathG ps k = n) ∧ Cel1 wr w.heap.size (.slice a len cap) ∧ InRow wr a len cap ps ∧ Below w.heap.size w wr) (fun _ b _ => len - (intOf b).toNat)
  case atStart => exact ⟨1, 0, by omega, rfl, rfl, rfl, K, hR3, hb⟩
  case round =>
    clear K hR3 hb
    obtain ⟨n, k, hk, rfl, rfl, hn, K, hRr, hb⟩ := hrel
    obtain ⟨k0, k1, k2⟩ := id K
    have hn1 : 1 ≤ n ∧ n ≤ 1 + 64 * k := by have := hub.out k hk; rw [hn.out] at this; exact this
    by_cases hlt : k < len
    · obtain ⟨b, off, x, y, rfl, hbl, hx, ⟨⟨q1, q2⟩, q3, q4⟩, c0, c1⟩ := hRr.at hlt
      have E := hd (sPGapB x y q1 q2 q3 q4)
      have hg := gapAt_eq hx
      have hgb1 := gapI_bd x y q1 q4
      have U := hd (sHalvings (gapI x y) hgb1)
      have hc := hlvI_bd hgb1
      have hs : Hid (pathG ps (k + 1) = n + hlvI (gapI x y)) := by show _ = _; rw [← hg, ← hn.out]; rfl
      clear hg
      generalize gapI x y = g at *
      generalize hlvI g = c at *
      go_wp2_with (first | (go_at_call 63; refine (E.out _).mono ?_; rintro e wx ⟨rfl, hbx⟩) | (go_at_call 81; refine (U.out _).mono ?_; rintro e wy ⟨rfl, rfl⟩))
      go_roundw
      case rel => exact ⟨n + c, k + 1, by omega, by go_num, by go_num, hs, K.later (by repeat (first | exact Below.refl _ _ | refine Below.drew ?_ | refine old_alloc ?_ _ | refine old_trans ?_ (by assumption))), hRr.old (by repeat (first | exact Below.refl _ _ | refine Below.drew ?_ | refine old_alloc ?_ _ | refine old_trans ?_ (by assumption))), (by repeat (first | exact hb | exact Below.refl _ _ | refine Below.drew ?_ | refine old_alloc ?_ _ | refine old_trans ?_ (by assumption)))⟩
      case measure => simp [intOf]; omega
    · obtain rfl : k = len := by omega
      have hyes : Hid (z = n) := hz.out.symm.trans hn.out
      go_wp2
      go_ret
      exact ⟨by rw [hyes.out]; rfl, hb⟩

set_option maxHeartbeats 2000000 in
theorem iBoxPath (wd : Int) (a : Option Addr) (len cap : Nat) (ps : List (Int × Int)) (w : World) (hR : InRow w a len cap ps) :
    Calls Try.prog 40 #[.int .i64 wd, .agg #[.slice a len cap]] w fun e w' => e = .returned (.int .i64 (pathRow wd ps)) ∧ Below w.heap.size w w' := by
  have hlen : len ≤ maxLen := Nat.le_trans hR.2.1 hR.2.2.1
  have hp := hR.1
  unfold maxLen at hlen
  have K : Cel1 (w.alloc (.cells #[.slice a len cap] 29)) w.heap.size (.slice a len cap) := Cel1.made w _ rfl _ _
  have hR3 := hR.alloc (.cells #[.slice a len cap] 29)
  have S := hd (iBoxOk wd a len cap ps _ hR3)
  cases hok : okRow wd ps
  · have hno : Hid (pathRow wd ps = 0) := by show _ = _; unfold pathRow; rw [hok]; rfl
    rw [hok] at S
    clear hok
    go_enter Try.func40, Try.ntmps40
    go_wp2_with (go_at_call 18; refine S.out.mono ?_; rintro e w1 ⟨rfl, hb1⟩)
    go_ret
    exact ⟨by rw [hno.out]; rfl, (by repeat (first | exact Below.refl _ _ | refine Below.drew ?_ | refine old_alloc ?_ _ | refine old_trans ?_ (by assumption)))⟩
  rw [hok] at S
  have hol := okRow_len hok
  have hgb : ∀ k, k < len → 0 ≤ gapAt ps k ∧ gapAt ps k ≤ 18446744073709551615 := fun k hk => gapAt_bd hR hk
  have hz : Hid (pathG ps len = pathRow wd ps) := by show _ = _; unfold pathRow; rw [if_pos hok, hp]
  clear hok
  generalize pathRow wd ps = z at *
  go_enter Try.func40, Try.ntmps40
  go_wp2_with fail
  refine S.out.mono ?_
  rintro e w1 ⟨rfl, hb1⟩
  replace K := K.later hb1
  replace hR3 := hR3.old hb1
  have k0 := K.1
  have k2 := K.2.2
  go_wp2_with fail
  refine (foldN 82 a len cap ps (pathG ps) _ hR3 (enters_of Try.func82 (by kernel_rfl) rfl) (fun k x y W hk hx hq hW => by
    have := iBoxPath1 (pathG ps k) x y (by have := pathG_bd hgb k (by omega); omega) hq W
    rw [← gapAt_eq hx] at this
    exact this)).mono ?_
  rintro e w2 ⟨he, hb2⟩
  rw [hz.out] at he
  subst he
  go_wp2
  go_ret
  exact ⟨rfl, (by repeat (first | exact Below.refl _ _ | refine Below.drew ?_ | refine old_alloc ?_ _ | refine old_trans ?_ (by assumption)))⟩
end Go.Proofs.Ytmeijbiohbpgpaa
