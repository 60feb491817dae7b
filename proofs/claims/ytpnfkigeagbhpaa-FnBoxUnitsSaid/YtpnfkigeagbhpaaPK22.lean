/- How many boxes wait at most below a box: how often each count can be halved, by the specification's loop and by the library's table. No condition. -/
import Derived.Test.YtpnfkigeagbhpaaPK15
import Derived.Test.YtpnfkigeagbhpaaPK21
namespace Go.Proofs.Ytpnfkigeagbhpaa
open Go.RowKit
set_option linter.unusedVariables false
set_option maxRecDepth 100000

theorem hlvI_zero : hlvI 0 = 0 := by decide +kernel
theorem hlvI_half {g : Int} (h0 : 0 < g) (h : g ≤ 18446744073709551615) : hlvI g = 1 + hlvI (g / 2) := by
  have e := Lib.bitLen_half g.toNat (by omega) (by omega)
  have f : (g / 2).toNat = g.toNat / 2 := by omega
  unfold hlvI
  rw [e, f]
  omega
def pathG (ps : List (Int × Int)) : Nat → Int
  | 0 => 1
  | k + 1 => pathG ps k + hlvI (gapAt ps k)
def pathRow (wd : Int) (ps : List (Int × Int)) : Int := if okRow wd ps then pathG ps ps.length else 0
theorem pathG_bd {ps : List (Int × Int)} {n : Nat} (hb : ∀ j, j < n → 0 ≤ gapAt ps j ∧ gapAt ps j ≤ 18446744073709551615) : ∀ k, k ≤ n → 1 ≤ pathG ps k ∧ pathG ps k ≤ 1 + 64 * k
  | 0, _ => by show 1 ≤ (1 : Int) ∧ (1 : Int) ≤ _; omega
  | k + 1, h => by
    have h1 := pathG_bd hb k (by omega)
    have h2 := hlvI_bd (hb k (by omega))
    show 1 ≤ pathG ps k + hlvI (gapAt ps k) ∧ pathG ps k + hlvI (gapAt ps k) ≤ _
    omega

set_option maxHeartbeats 1000000 in
theorem iHalvings (g : Int) (h : 0 ≤ g ∧ g ≤ 18446744073709551615) (w : World) :
    Calls Try.prog 49 #[.agg #[.int .u64 g]] w fun e w' => e = .returned (.int .i64 (hlvI g)) ∧ Below w.heap.size w w' := by
  have L := hd (iLen64 g h)
  generalize hlvI g = z at *
  go_enter Try.func49, Try.ntmps49
  go_wp2_with (go_at_call 78; refine (L.out _).mono ?_; rintro e w1 ⟨rfl, rfl⟩)
  go_ret
  exact ⟨rfl, (by repeat (first | exact Below.refl _ _ | refine Below.drew ?_ | refine old_alloc ?_ _ | refine old_trans ?_ (by assumption)))⟩
set_option maxHeartbeats 1000000 in
theorem iBoxPath1 (u x y : Int) (hu : 1 ≤ u ∧ u ≤ 1000000000) (q : (-9223372036854775808 ≤ x ∧ x ≤ 9223372036854775807) ∧ -9223372036854775808 ≤ y ∧ y ≤ 9223372036854775807) (w : World) :
    Calls Try.prog 48 #[.int .i64 u, .agg #[.int .i64 x, .int .i64 y]] w fun e w' => e = .returned (.int .i64 (u + hlvI (gapI x y))) ∧ Below w.heap.size w w' := by
  have E := hd (iCounted x y q.1.1 q.1.2 q.2.1 q.2.2)
  have hgb := gapI_bd x y q.1.1 q.2.2
  generalize gapI x y = g at *
  have f1 := fld_count g x y
  have U := hd (iHalvings g hgb)
  have hub := hlvI_bd hgb
  generalize hlvI g = c at *
  go_enter Try.func48, Try.ntmps48
  go_wp2_with (first | (go_at_call 46; refine (E.out _).mono ?_; rintro e w1 ⟨rfl, hb1⟩) | (go_at_call 49; refine (U.out _).mono ?_; rintro e w2 ⟨rfl, hb2⟩))
  go_ret
  exact ⟨rfl, (by repeat (first | exact Below.refl _ _ | refine Below.drew ?_ | refine old_alloc ?_ _ | refine old_trans ?_ (by assumption)))⟩

set_option maxHeartbeats 2000000 in
theorem iBoxPath (wd : Int) (a : Option Addr) (len cap : Nat) (ps : List (Int × Int)) (w : World) (hR : InRow w a len cap ps) :
    Calls Try.prog 17 #[.int .i64 wd, .agg #[.slice a len cap]] w fun e w' => e = .returned (.int .i64 (pathRow wd ps)) ∧ Below w.heap.size w w' := by
  have hlen : len ≤ maxLen := Nat.le_trans hR.2.1 hR.2.2.1
  have hp := hR.1
  unfold maxLen at hlen
  have K : Cel1 (w.alloc (.cells #[.slice a len cap] 25)) w.heap.size (.slice a len cap) := Cel1.made w _ rfl _ _
  have hR3 := hR.alloc (.cells #[.slice a len cap] 25)
  have S := hd (iBoxOk wd a len cap ps _ hR3)
  cases hok : okRow wd ps
  · have hno : Hid (pathRow wd ps = 0) := by show _ = _; unfold pathRow; rw [hok]; rfl
    rw [hok] at S
    clear hok
    go_enter Try.func17, Try.ntmps17
    go_wp2_with (go_at_call 10; refine S.out.mono ?_; rintro e w1 ⟨rfl, hb1⟩)
    go_ret
    exact ⟨by rw [hno.out]; rfl, (by repeat (first | exact Below.refl _ _ | refine Below.drew ?_ | refine old_alloc ?_ _ | refine old_trans ?_ (by assumption)))⟩
  rw [hok] at S
  have hol := okRow_len hok
  have hgb : ∀ k, k < len → 0 ≤ gapAt ps k ∧ gapAt ps k ≤ 18446744073709551615 := fun k hk => gapAt_bd hR hk
  have hz : Hid (pathG ps len = pathRow wd ps) := by show _ = _; unfold pathRow; rw [if_pos hok, hp]
  clear hok
  generalize pathRow wd ps = z at *
  go_enter Try.func17, Try.ntmps17
  go_wp2_with fail
  refine S.out.mono ?_
  rintro e w1 ⟨rfl, hb1⟩
  replace K := K.later hb1
  replace hR3 := hR3.old hb1
  have k0 := K.1
  have k2 := K.2.2
  go_wp2_with fail
  refine (foldN 48 a len cap ps (pathG ps) _ hR3 (enters_of Try.func48 (by kernel_rfl) rfl) (fun k x y W hk hx hq hW => by
    have := iBoxPath1 (pathG ps k) x y (by have := pathG_bd hgb k (by omega); omega) hq W
    rw [← gapAt_eq hx] at this
    exact this)).mono ?_
  rintro e w2 ⟨he, hb2⟩
  rw [hz.out] at he
  subst he
  go_wp2
  go_ret
  exact ⟨rfl, (by repeat (first | exact Below.refl _ _ | refine Below.drew ?_ | refine old_alloc ?_ _ | refine old_trans ?_ (by assumption)))⟩
end Go.Proofs.Ytpnfkigeagbhpaa
