/- Good fractions and numbers off a code; fractions held against each other. -/
import Derived.Test.YtlfaiekcmflgnaaGreatDoorUS
import Derived.Test.YtlfaiekcmflgnaaGreatDoorUM
namespace Go.Proofs.YtlfaiekcmflgnaaGreatDoor
open Go.RowKit
set_option linter.unusedVariables false
set_option maxRecDepth 100000

set_option maxHeartbeats 2000000 in
theorem lPwSameU (a a' : Option Addr) (len cap cap' : Nat) (xs : List Int) (w : World) (hR : InI w a len cap xs) (hR' : InI w a' len cap' xs) :
    Calls Tryz.prog 30 #[.slice a len cap, .slice a' len cap'] w fun e w' => e = .returned (.bool true) ∧ Below w.heap.size w w' := by
  have hlen := hR.len
  go_enter Tryz.func30, Tryz.ntmps30
  go_wp2
  go_loopw [5] (fun a wr => ∃ k : Nat, k ≤ len ∧ a = .int .i64 k ∧ Below w.heap.size w wr) (fun b _ => len - (intOf b).toNat)
  case atStart => exact ⟨0, by omega, rfl, (by repeat (first | exact Below.refl _ _ | refine Below.drew ?_ | refine old_alloc ?_ _ | refine old_trans ?_ (by assumption)))⟩
  case round =>
    obtain ⟨k, hk, rfl, hb⟩ := hrel
    by_cases hlt : k < len
    · obtain ⟨b, off, x, rfl, hbl, hx, -, c0⟩ := (hR.old hb).at hlt
      obtain ⟨b', off', x', rfl, hbl', hx', -, c0'⟩ := (hR'.old hb).at hlt
      obtain rfl := hx.symm.trans hx'
      go_wp2_with fail
      go_region
      all_goals
        go_wp2
        go_roundw
        case rel => exact ⟨k + 1, by omega, by go_num, hb.drew⟩
        case measure => simp [intOf]; omega
    · obtain rfl : k = len := by omega
      go_wp2
      go_ret
      exact ⟨rfl, hb⟩
set_option maxHeartbeats 2000000 in
theorem lPwFrac (bl : Bool) (a b a' b' : Option Addr) (la lb ca cb ca' cb' : Nat) (xs ys : List Int) (w : World) (hA : InI w a la ca xs) (hB : InI w b lb cb ys) (hA' : InI w a' la ca' xs) (hB' : InI w b' lb cb' ys) :
    Calls Tryz.prog 13 #[.agg #[.bool bl, .slice a la ca, .slice b lb cb], .agg #[.bool bl, .slice a' la ca', .slice b' lb cb']] w fun e w' => e = .returned (.bool true) ∧ Below w.heap.size w w' := by
  have e0 : Below w.heap.size w ((w.alloc (.cells #[.bool bl, .slice a la ca, .slice b lb cb] 24)).alloc (.cells #[.bool bl, .slice a' la ca', .slice b' lb cb'] 24)) := (by repeat (first | exact Below.refl _ _ | refine Below.drew ?_ | refine old_alloc ?_ _ | refine old_trans ?_ (by assumption)))
  have K1 := (Cel3.new w (.bool bl) (.slice a la ca) (.slice b lb cb) 24).old (old_alloc (Below.refl _ _) (.cells #[.bool bl, .slice a' la ca', .slice b' lb cb'] 24))
  have K2 := Cel3.new (w.alloc (.cells #[.bool bl, .slice a la ca, .slice b lb cb] 24)) (.bool bl) (.slice a' la ca') (.slice b' lb cb') 24
  simp only [World.size_alloc] at K2
  have P1 := hd (lPwSameU a a' la ca ca' xs _ (hA.old e0) (hA'.old e0))
  have P2 := hd (fun w' (h : Below w.heap.size w w') => lPwSameU b b' lb cb cb' ys w' (hB.old h) (hB'.old h))
  clear hA hB hA' hB'
  go_enter Tryz.func13, Tryz.ntmps13
  go_wp2_with fail
  refine P1.out.mono ?_
  rintro e w1 ⟨rfl, hb1⟩
  replace K1 := K1.old hb1
  replace K2 := K2.old hb1
  have hB1 := old_trans e0 hb1
  obtain ⟨k1, ⟨k2, k3, k4⟩, -⟩ := id K1
  obtain ⟨m1, ⟨m2, m3, m4⟩, -⟩ := id K2
  clear P1 hb1 e0
  go_wp2_with fail
  refine (P2.out _ hB1).mono ?_
  rintro e w2 ⟨rfl, hb2⟩
  have hB2 := old_trans hB1 hb2
  go_wp2
  go_ret
  exact ⟨rfl, hB2⟩
end Go.Proofs.YtlfaiekcmflgnaaGreatDoor
