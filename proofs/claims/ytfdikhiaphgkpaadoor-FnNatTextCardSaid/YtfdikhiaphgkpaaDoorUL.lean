/- What the program and the specification do with numbers, said of the naturals that they stand for. Conditions: as each says. -/
import Derived.Test.YtfdikhiaphgkpaaDoorUK
import Derived.Test.YtfdikhiaphgkpaaDoorBC
import Derived.Test.YtfdikhiaphgkpaaDoorNJ
import Derived.Test.YtfdikhiaphgkpaaDoorBG
import Derived.Test.YtfdikhiaphgkpaaDoorBB
import Derived.Test.YtfdikhiaphgkpaaDoorV6
import Derived.ShutString
import Derived.ChangeOld
namespace Go.Proofs.YtfdikhiaphgkpaaDoor
open Go.RowKit
set_option linter.unusedVariables false
set_option maxRecDepth 100000

theorem okL {X : Nat} (h : (natL X).length ≤ 256) : natOk (natL X) = true := natOk_natL (natL_len.1 h)
theorem okX {xs : List Int} (h : natOk xs = true) : ∃ X, xs = natL X ∧ (natL X).length ≤ 256 := ⟨val xs, (natOk_canon h).symm, by rw [natOk_canon h]; exact (natOk_in h).1⟩
theorem natL_ne {Y : Nat} (h : Y ≠ 0) : (natL Y).length ≠ 0 := by have := natL_length_pos (Nat.pos_of_ne_zero h); omega
theorem cmp_ge {X Y : Nat} (h : Y ≤ X) : ∃ c : Int, cmpI X Y = c ∧ 0 ≤ c := by
  rcases Nat.lt_or_ge Y X with g | g
  · exact ⟨1, cmpI_gt g, by omega⟩
  · obtain rfl : X = Y := by omega
    exact ⟨0, cmpI_eq _, by omega⟩
set_option maxHeartbeats 2000000 in
theorem lPwSame (a a' : Option Addr) (len cap cap' : Nat) (xs : List Int) (w : World) (hR : InI w a len cap xs) (hR' : InI w a' len cap' xs) :
    Calls Tryd.prog 8 #[.slice a len cap, .slice a' len cap'] w fun e w' => e = .returned (.bool true) ∧ Below w.heap.size w w' := by
  have hlen := hR.len
  go_enter Tryd.func8, Tryd.ntmps8
  go_wp2
  go_loopw [5] (fun a wr => ∃ k : Nat, k ≤ len ∧ a = .int .i64 k ∧ Below w.heap.size w wr) (fun b _ => len - (intOf b).toNat)
  case atStart => exact ⟨0, by omega, rfl, (by repeat (first | exact Below.refl _ _ | refine Below.drew ?_ | refine old_alloc ?_ _ | refine old_trans ?_ (by assumption)))⟩
  case round =>
    obtain ⟨k, hk, rfl, hb⟩ := hrel
    by_cases hlt : k < len
    · obtain ⟨b, off, x, rfl, hbl, hx, -, c0⟩ := (hR.old hb).at hlt
      obtain ⟨b', off', x', rfl, hbl', hx', -, c0'⟩ := (hR'.old hb).at hlt
      obtain rfl := hx.symm.trans hx'
      go_wp2_with fail
      go_region
      all_goals
        go_wp2
        go_roundw
        case rel => exact ⟨k + 1, by omega, by go_num, hb.drew⟩
        case measure => simp [intOf]; omega
    · obtain rfl : k = len := by omega
      go_wp2
      go_ret
      exact ⟨rfl, hb⟩
theorem powB_rng' {xs : List Int} {n : Int} (h : powB xs n = true) : 0 ≤ n ∧ n ≤ 64 := by
  unfold powB at h
  simp only [Bool.and_eq_true, decide_eq_true_eq] at h
  exact h.2.1
theorem powB_ok {xs : List Int} {n : Int} (h : powB xs n = true) : natOk xs = true := by
  unfold powB at h
  simp only [Bool.and_eq_true] at h
  exact h.1
end Go.Proofs.YtfdikhiaphgkpaaDoor
