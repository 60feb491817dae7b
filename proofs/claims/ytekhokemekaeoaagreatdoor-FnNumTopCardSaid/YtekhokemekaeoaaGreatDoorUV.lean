/- Good fractions and numbers off a code; fractions held against each other. -/
import Derived.Test.YtekhokemekaeoaaGreatDoorUS
import Derived.Test.YtekhokemekaeoaaGreatDoorUM
namespace Go.Proofs.YtekhokemekaeoaaGreatDoor
open Go.RowKit
set_option linter.unusedVariables false
set_option maxRecDepth 100000

theorem resGoodFrac {W : World} {b : Nat} {v0 v1 v2 : Value} {tmps : Array Value} (h : Cel3 W b v0 v1 v2) (ht : tmps[2]? = some (.pointer (some ⟨b, 0, none⟩))) : (results Tryz.f7 tmps).run Tryz.prog W = .ok (.agg #[v0, v1, v2]) W := by
  obtain ⟨h1, ⟨a0, a1, a2⟩, -⟩ := h
  simp [results, Tryz.results7, go_sem, a0, a1, a2, ht]
set_option maxHeartbeats 2000000 in
theorem goodFrac (w : World) (a : Option Addr) (len cap : Nat) (h : IsCode w a len cap) :
    Calls Tryz.prog 7 #[.slice a len cap] w fun e w' => FG w' w.heap.size e ∧ Below w.heap.size w w' := by
  have e0 : Below w.heap.size w (w.alloc (.cells #[.bool false, .slice none 0 0, .slice none 0 0] 25)) := old_alloc (Below.refl _ _) _
  have K := Cel3.new w (.bool false) (.slice none 0 0) (.slice none 0 0) 25
  have hop := hd (open_kB _ a len cap (h.old e0))
  clear h
  have hs0 := K.1
  go_enter Tryz.func7, Tryz.ntmps7
  go_wp2_with fail
  generalize w.alloc (.cells #[.bool false, .slice none 0 0, .slice none 0 0] 25) = wz at *
  refine hop.out.mono ?_
  rintro e w1 ⟨rfl, o, rfl, hR⟩
  replace K := K.old (old_alloc (Below.refl _ _) o)
  clear hop
  go_wp2_with fail
  refine (good_k wz.heap.size 1000 _ (hR.mono (by omega))).mono ?_
  rintro e w2 ⟨⟨b, a1, c1, ps, a2, c2, qs, rfl, O1, O2, hS, hok⟩, R2, B2⟩
  replace K := K.but B2 (by omega)
  have hB2 : Below w.heap.size w w2 := old_trans e0 B2.below
  have hsw := e0.size
  clear B2 R2 hR e0
  obtain ⟨m1, ⟨m2, m3, m4⟩, m5, m6, m7⟩ := id K
  have q1 := (oi_set3 (v0 := .bool b) (v1 := .slice a1 ps.length c1) (v2 := .slice a2 qs.length c2) O1 (show w.heap.size < _ by simp; omega)).mono (show w.heap.size ≤ _ by simp; omega)
  have q2 := (oi_set3 (v0 := .bool b) (v1 := .slice a1 ps.length c1) (v2 := .slice a2 qs.length c2) O2 (show w.heap.size < _ by simp; omega)).mono (show w.heap.size ≤ _ by simp; omega)
  have hF : FG _ w.heap.size (.returned (.agg #[.bool b, .slice a1 ps.length c1, .slice a2 qs.length c2])) := ⟨_, _, _, _, _, _, _, rfl, q1, q2, hS, hok⟩
  clear q1 q2 O1 O2 hS hok
  go_wp2
  exact bodyPost_ret (resGoodFrac (K.setAll (.bool b) (.slice a1 ps.length c1) (.slice a2 qs.length c2)) rfl) rfl ⟨hF, below_set (below_set (below_set hB2 (by omega) _) (by omega) _) (by omega) _⟩
set_option maxHeartbeats 2000000 in
theorem lPwSameU (a a' : Option Addr) (len cap cap' : Nat) (xs : List Int) (w : World) (hR : InI w a len cap xs) (hR' : InI w a' len cap' xs) :
    Calls Tryz.prog 26 #[.slice a len cap, .slice a' len cap'] w fun e w' => e = .returned (.bool true) ∧ Below w.heap.size w w' := by
  have hlen := hR.len
  go_enter Tryz.func26, Tryz.ntmps26
  go_wp2
  go_loopw [5] (fun a wr => ∃ k : Nat, k ≤ len ∧ a = .int .i64 k ∧ Below w.heap.size w wr) (fun b _ => len - (intOf b).toNat)
  case atStart => exact ⟨0, by omega, rfl, (by repeat (first | exact Below.refl _ _ | refine Below.drew ?_ | refine old_alloc ?_ _ | refine old_trans ?_ (by assumption)))⟩
  case round =>
    obtain ⟨k, hk, rfl, hb⟩ := hrel
    by_cases hlt : k < len
    · obtain ⟨b, off, x, rfl, hbl, hx, -, c0⟩ := (hR.old hb).at hlt
      obtain ⟨b', off', x', rfl, hbl', hx', -, c0'⟩ := (hR'.old hb).at hlt
      obtain rfl := hx.symm.trans hx'
      go_wp2_with fail
      go_region
      all_goals
        go_wp2
        go_roundw
        case rel => exact ⟨k + 1, by omega, by go_num, hb.drew⟩
        case measure => simp [intOf]; omega
    · obtain rfl : k = len := by omega
      go_wp2
      go_ret
      exact ⟨rfl, hb⟩
set_option maxHeartbeats 2000000 in
theorem lPwFrac (bl : Bool) (a b a' b' : Option Addr) (la lb ca cb ca' cb' : Nat) (xs ys : List Int) (w : World) (hA : InI w a la ca xs) (hB : InI w b lb cb ys) (hA' : InI w a' la ca' xs) (hB' : InI w b' lb cb' ys) :
    Calls Tryz.prog 10 #[.agg #[.bool bl, .slice a la ca, .slice b lb cb], .agg #[.bool bl, .slice a' la ca', .slice b' lb cb']] w fun e w' => e = .returned (.bool true) ∧ Below w.heap.size w w' := by
  have e0 : Below w.heap.size w ((w.alloc (.cells #[.bool bl, .slice a la ca, .slice b lb cb] 25)).alloc (.cells #[.bool bl, .slice a' la ca', .slice b' lb cb'] 25)) := (by repeat (first | exact Below.refl _ _ | refine Below.drew ?_ | refine old_alloc ?_ _ | refine old_trans ?_ (by assumption)))
  have K1 := (Cel3.new w (.bool bl) (.slice a la ca) (.slice b lb cb) 25).old (old_alloc (Below.refl _ _) (.cells #[.bool bl, .slice a' la ca', .slice b' lb cb'] 25))
  have K2 := Cel3.new (w.alloc (.cells #[.bool bl, .slice a la ca, .slice b lb cb] 25)) (.bool bl) (.slice a' la ca') (.slice b' lb cb') 25
  simp only [World.size_alloc] at K2
  have P1 := hd (lPwSameU a a' la ca ca' xs _ (hA.old e0) (hA'.old e0))
  have P2 := hd (fun w' (h : Below w.heap.size w w') => lPwSameU b b' lb cb cb' ys w' (hB.old h) (hB'.old h))
  clear hA hB hA' hB'
  go_enter Tryz.func10, Tryz.ntmps10
  go_wp2_with fail
  refine P1.out.mono ?_
  rintro e w1 ⟨rfl, hb1⟩
  replace K1 := K1.old hb1
  replace K2 := K2.old hb1
  have hB1 := old_trans e0 hb1
  obtain ⟨k1, ⟨k2, k3, k4⟩, -⟩ := id K1
  obtain ⟨m1, ⟨m2, m3, m4⟩, -⟩ := id K2
  clear P1 hb1 e0
  go_wp2_with fail
  refine (P2.out _ hB1).mono ?_
  rintro e w2 ⟨rfl, hb2⟩
  have hB2 := old_trans hB1 hb2
  go_wp2
  go_ret
  exact ⟨rfl, hB2⟩
end Go.Proofs.YtekhokemekaeoaaGreatDoor
