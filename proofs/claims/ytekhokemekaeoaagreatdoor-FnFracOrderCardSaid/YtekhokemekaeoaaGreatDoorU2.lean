/- Two fractions off a code, as the laws draw them. -/
import Derived.Test.YtekhokemekaeoaaGreatDoorUZ
namespace Go.Proofs.YtekhokemekaeoaaGreatDoor
open Go.RowKit
set_option linter.unusedVariables false
set_option maxRecDepth 100000

theorem resFracCmp2 {W : World} {b c : Nat} {v0 v1 v2 u0 u1 u2 : Value} {tmps : Array Value} (h : Cel3 W b v0 v1 v2) (h' : Cel3 W c u0 u1 u2) (ht : tmps[2]? = some (.pointer (some ⟨b, 0, none⟩))) (ht' : tmps[3]? = some (.pointer (some ⟨c, 0, none⟩))) : (results Tryz.f16 tmps).run Tryz.prog W = .ok (.tuple #[.agg #[v0, v1, v2], .agg #[u0, u1, u2]]) W := by
  obtain ⟨h1, ⟨a0, a1, a2⟩, -⟩ := h
  obtain ⟨h3, ⟨b0, b1, b2⟩, -⟩ := h'
  simp [results, Tryz.results16, go_sem, a0, a1, a2, b0, b1, b2, ht, ht']
set_option maxHeartbeats 4000000 in
theorem dFracCmp2 (w : World) (a : Option Addr) (len cap : Nat) (h : IsCode w a len cap) :
    Calls Tryz.prog 16 #[.slice a len cap] w fun e w' => FF2 w' w.heap.size e ∧ Below w.heap.size w w' := by
  have e0 : Below w.heap.size w ((w.alloc (.cells #[.bool false, .slice none 0 0, .slice none 0 0] 25)).alloc (.cells #[.bool false, .slice none 0 0, .slice none 0 0] 25)) := (by repeat (first | exact Below.refl _ _ | refine Below.drew ?_ | refine old_alloc ?_ _ | refine old_trans ?_ (by assumption)))
  have K2 := (Cel3.new w (.bool false) (.slice none 0 0) (.slice none 0 0) 25).old (old_alloc (Below.refl _ _) (.cells #[.bool false, .slice none 0 0, .slice none 0 0] 25))
  have K3 := Cel3.new (w.alloc (.cells #[.bool false, .slice none 0 0, .slice none 0 0] 25)) (.bool false) (.slice none 0 0) (.slice none 0 0) 25
  simp only [World.size_alloc] at K3
  have FK := hd (fracs_k _ a len cap (h.old e0))
  clear h
  have hs0 : w.heap.size + 2 ≤ ((w.alloc (.cells #[.bool false, .slice none 0 0, .slice none 0 0] 25)).alloc (.cells #[.bool false, .slice none 0 0, .slice none 0 0] 25)).heap.size := by simp
  go_enter Tryz.func16, Tryz.ntmps16
  go_wp2_with fail
  generalize ((w.alloc (.cells #[.bool false, .slice none 0 0, .slice none 0 0] 25)).alloc (.cells #[.bool false, .slice none 0 0, .slice none 0 0] 25)) = wz at *
  refine FK.out.mono ?_
  rintro e w1 ⟨⟨b, avX, cvX, xs, avY, cvY, ys, c, avU, cvU, us, avV, cvV, vs, rfl, ⟨OX, OY⟩, OU, OV⟩, hb1⟩
  replace OX := OX.mono (show w.heap.size + 2 ≤ _ from hs0)
  replace OY := OY.mono (show w.heap.size + 2 ≤ _ from hs0)
  replace OU := OU.mono (show w.heap.size + 2 ≤ _ from hs0)
  replace OV := OV.mono (show w.heap.size + 2 ≤ _ from hs0)
  have hs1 := hb1.size
  have KA := (Cel3.new w1 (.bool b) (.slice avX xs.length cvX) (.slice avY ys.length cvY) 25).old (old_alloc (Below.refl _ _) (.cells #[.bool c, .slice avU us.length cvU, .slice avV vs.length cvV] 25))
  have KB := Cel3.new (w1.alloc (.cells #[.bool b, .slice avX xs.length cvX, .slice avY ys.length cvY] 25)) (.bool c) (.slice avU us.length cvU) (.slice avV vs.length cvV) 25
  simp only [World.size_alloc] at KB
  have hal : Below w1.heap.size w1 ((w1.alloc (.cells #[.bool b, .slice avX xs.length cvX, .slice avY ys.length cvY] 25)).alloc (.cells #[.bool c, .slice avU us.length cvU, .slice avV vs.length cvV] 25)) := (by repeat (first | exact Below.refl _ _ | refine Below.drew ?_ | refine old_alloc ?_ _ | refine old_trans ?_ (by assumption)))
  replace OX := OX.later hal
  replace OY := OY.later hal
  replace OU := OU.later hal
  replace OV := OV.later hal
  replace K2 := (K2.old hb1).old hal
  replace K3 := (K3.old hb1).old hal
  have hBB := old_trans (old_trans e0 hb1) hal
  clear FK hb1 e0
  have nKA : w.heap.size ≠ w1.heap.size := by omega
  have nKB : w.heap.size ≠ w1.heap.size + 1 := by omega
  have nLA : w.heap.size + 1 ≠ w1.heap.size := by omega
  have nLB : w.heap.size + 1 ≠ w1.heap.size + 1 := by omega
  go_upto_region 2 with fail
  generalize (w1.alloc (.cells #[.bool b, .slice avX xs.length cvX, .slice avY ys.length cvY] 25)).alloc (.cells #[.bool c, .slice avU us.length cvU, .slice avV vs.length cvV] 25) = w2 at *
  clear hal
  generalize w1.heap.size + 1 = pb at *
  generalize w1.heap.size = pa at *
  have hpq : w.heap.size ≠ w.heap.size + 1 := by omega
  have hqp : w.heap.size + 1 ≠ w.heap.size := by omega
  obtain ⟨m1, ⟨m2, m3, m4⟩, m5, m6, m7⟩ := id K2
  obtain ⟨n1, ⟨n2, n3, n4⟩, n5, n6, n7⟩ := id K3
  obtain ⟨p1, ⟨p2, p3, p4⟩, -⟩ := id KA
  obtain ⟨q1, ⟨q2, q3, q4⟩, -⟩ := id KB
  have y1 := hd (oi_set3 (v0 := .bool c) (v1 := .slice avU us.length cvU) (v2 := .slice avV vs.length cvV) (b := w.heap.size + 1) (oi_set3 (v0 := .bool b) (v1 := .slice avX xs.length cvX) (v2 := .slice avY ys.length cvY) (b := w.heap.size) OX (by omega)) (by omega))
  have z1 := hd (oi_set3 (v0 := .bool c) (v1 := .slice avU us.length cvU) (v2 := .slice avV vs.length cvV) (b := w.heap.size + 1) (oi_set3 (v0 := .bool b) (v1 := .slice avX xs.length cvX) (v2 := .slice avY ys.length cvY) (b := w.heap.size) OY (by omega)) (by omega))
  have s1 := hd (oi_set3 (v0 := .bool c) (v1 := .slice avU us.length cvU) (v2 := .slice avV vs.length cvV) (b := w.heap.size + 1) (oi_set3 (v0 := .bool b) (v1 := .slice avX xs.length cvX) (v2 := .slice avY ys.length cvY) (b := w.heap.size) OU (by omega)) (by omega))
  have t1 := hd (oi_set3 (v0 := .bool c) (v1 := .slice avU us.length cvU) (v2 := .slice avV vs.length cvV) (b := w.heap.size + 1) (oi_set3 (v0 := .bool b) (v1 := .slice avX xs.length cvX) (v2 := .slice avY ys.length cvY) (b := w.heap.size) OV (by omega)) (by omega))
  have j1 := hd ((K2.setAll (.bool b) (.slice avX xs.length cvX) (.slice avY ys.length cvY)).far3 (x := .bool c) (y := .slice avU us.length cvU) (z := .slice avV vs.length cvV) hpq)
  have g1 := hd ((K3.far3 (x := .bool b) (y := .slice avX xs.length cvX) (z := .slice avY ys.length cvY) hqp).setAll (.bool c) (.slice avU us.length cvU) (.slice avV vs.length cvV))
  have b1 := hd (below_set3 (v0 := .bool c) (v1 := .slice avU us.length cvU) (v2 := .slice avV vs.length cvV) (b := w.heap.size + 1) (below_set3 (v0 := .bool b) (v1 := .slice avX xs.length cvX) (v2 := .slice avY ys.length cvY) (b := w.heap.size) hBB (by omega)) (by omega))
  clear OX OY OU OV
  go_wp2_with fail
  go_region
  all_goals
    go_wp2
    exact bodyPost_ret (resFracCmp2 j1.out.drew g1.out.drew rfl rfl) rfl ⟨⟨_, _, _, _, _, _, _, _, _, _, _, _, _, _, rfl, ⟨y1.out.drew.mono (by omega), z1.out.drew.mono (by omega)⟩, s1.out.drew.mono (by omega), t1.out.drew.mono (by omega)⟩, b1.out.drew⟩
theorem resFracAdd2 {W : World} {b c : Nat} {v0 v1 v2 u0 u1 u2 : Value} {tmps : Array Value} (h : Cel3 W b v0 v1 v2) (h' : Cel3 W c u0 u1 u2) (ht : tmps[2]? = some (.pointer (some ⟨b, 0, none⟩))) (ht' : tmps[3]? = some (.pointer (some ⟨c, 0, none⟩))) : (results Tryz.f6 tmps).run Tryz.prog W = .ok (.tuple #[.agg #[v0, v1, v2], .agg #[u0, u1, u2]]) W := by
  obtain ⟨h1, ⟨a0, a1, a2⟩, -⟩ := h
  obtain ⟨h3, ⟨b0, b1, b2⟩, -⟩ := h'
  simp [results, Tryz.results6, go_sem, a0, a1, a2, b0, b1, b2, ht, ht']
set_option maxHeartbeats 4000000 in
theorem dFracAdd2 (w : World) (a : Option Addr) (len cap : Nat) (h : IsCode w a len cap) :
    Calls Tryz.prog 6 #[.slice a len cap] w fun e w' => FF2 w' w.heap.size e ∧ Below w.heap.size w w' := by
  have e0 : Below w.heap.size w ((w.alloc (.cells #[.bool false, .slice none 0 0, .slice none 0 0] 25)).alloc (.cells #[.bool false, .slice none 0 0, .slice none 0 0] 25)) := (by repeat (first | exact Below.refl _ _ | refine Below.drew ?_ | refine old_alloc ?_ _ | refine old_trans ?_ (by assumption)))
  have K2 := (Cel3.new w (.bool false) (.slice none 0 0) (.slice none 0 0) 25).old (old_alloc (Below.refl _ _) (.cells #[.bool false, .slice none 0 0, .slice none 0 0] 25))
  have K3 := Cel3.new (w.alloc (.cells #[.bool false, .slice none 0 0, .slice none 0 0] 25)) (.bool false) (.slice none 0 0) (.slice none 0 0) 25
  simp only [World.size_alloc] at K3
  have FK := hd (fracs_k _ a len cap (h.old e0))
  clear h
  have hs0 : w.heap.size + 2 ≤ ((w.alloc (.cells #[.bool false, .slice none 0 0, .slice none 0 0] 25)).alloc (.cells #[.bool false, .slice none 0 0, .slice none 0 0] 25)).heap.size := by simp
  go_enter Tryz.func6, Tryz.ntmps6
  go_wp2_with fail
  generalize ((w.alloc (.cells #[.bool false, .slice none 0 0, .slice none 0 0] 25)).alloc (.cells #[.bool false, .slice none 0 0, .slice none 0 0] 25)) = wz at *
  refine FK.out.mono ?_
  rintro e w1 ⟨⟨b, avX, cvX, xs, avY, cvY, ys, c, avU, cvU, us, avV, cvV, vs, rfl, ⟨OX, OY⟩, OU, OV⟩, hb1⟩
  replace OX := OX.mono (show w.heap.size + 2 ≤ _ from hs0)
  replace OY := OY.mono (show w.heap.size + 2 ≤ _ from hs0)
  replace OU := OU.mono (show w.heap.size + 2 ≤ _ from hs0)
  replace OV := OV.mono (show w.heap.size + 2 ≤ _ from hs0)
  have hs1 := hb1.size
  have KA := (Cel3.new w1 (.bool b) (.slice avX xs.length cvX) (.slice avY ys.length cvY) 25).old (old_alloc (Below.refl _ _) (.cells #[.bool c, .slice avU us.length cvU, .slice avV vs.length cvV] 25))
  have KB := Cel3.new (w1.alloc (.cells #[.bool b, .slice avX xs.length cvX, .slice avY ys.length cvY] 25)) (.bool c) (.slice avU us.length cvU) (.slice avV vs.length cvV) 25
  simp only [World.size_alloc] at KB
  have hal : Below w1.heap.size w1 ((w1.alloc (.cells #[.bool b, .slice avX xs.length cvX, .slice avY ys.length cvY] 25)).alloc (.cells #[.bool c, .slice avU us.length cvU, .slice avV vs.length cvV] 25)) := (by repeat (first | exact Below.refl _ _ | refine Below.drew ?_ | refine old_alloc ?_ _ | refine old_trans ?_ (by assumption)))
  replace OX := OX.later hal
  replace OY := OY.later hal
  replace OU := OU.later hal
  replace OV := OV.later hal
  replace K2 := (K2.old hb1).old hal
  replace K3 := (K3.old hb1).old hal
  have hBB := old_trans (old_trans e0 hb1) hal
  clear FK hb1 e0
  have nKA : w.heap.size ≠ w1.heap.size := by omega
  have nKB : w.heap.size ≠ w1.heap.size + 1 := by omega
  have nLA : w.heap.size + 1 ≠ w1.heap.size := by omega
  have nLB : w.heap.size + 1 ≠ w1.heap.size + 1 := by omega
  go_upto_region 2 with fail
  generalize (w1.alloc (.cells #[.bool b, .slice avX xs.length cvX, .slice avY ys.length cvY] 25)).alloc (.cells #[.bool c, .slice avU us.length cvU, .slice avV vs.length cvV] 25) = w2 at *
  clear hal
  generalize w1.heap.size + 1 = pb at *
  generalize w1.heap.size = pa at *
  have hpq : w.heap.size ≠ w.heap.size + 1 := by omega
  have hqp : w.heap.size + 1 ≠ w.heap.size := by omega
  obtain ⟨m1, ⟨m2, m3, m4⟩, m5, m6, m7⟩ := id K2
  obtain ⟨n1, ⟨n2, n3, n4⟩, n5, n6, n7⟩ := id K3
  obtain ⟨p1, ⟨p2, p3, p4⟩, -⟩ := id KA
  obtain ⟨q1, ⟨q2, q3, q4⟩, -⟩ := id KB
  have y1 := hd (oi_set3 (v0 := .bool c) (v1 := .slice avU us.length cvU) (v2 := .slice avV vs.length cvV) (b := w.heap.size + 1) (oi_set3 (v0 := .bool b) (v1 := .slice avX xs.length cvX) (v2 := .slice avY ys.length cvY) (b := w.heap.size) OX (by omega)) (by omega))
  have z1 := hd (oi_set3 (v0 := .bool c) (v1 := .slice avU us.length cvU) (v2 := .slice avV vs.length cvV) (b := w.heap.size + 1) (oi_set3 (v0 := .bool b) (v1 := .slice avX xs.length cvX) (v2 := .slice avY ys.length cvY) (b := w.heap.size) OY (by omega)) (by omega))
  have s1 := hd (oi_set3 (v0 := .bool c) (v1 := .slice avU us.length cvU) (v2 := .slice avV vs.length cvV) (b := w.heap.size + 1) (oi_set3 (v0 := .bool b) (v1 := .slice avX xs.length cvX) (v2 := .slice avY ys.length cvY) (b := w.heap.size) OU (by omega)) (by omega))
  have t1 := hd (oi_set3 (v0 := .bool c) (v1 := .slice avU us.length cvU) (v2 := .slice avV vs.length cvV) (b := w.heap.size + 1) (oi_set3 (v0 := .bool b) (v1 := .slice avX xs.length cvX) (v2 := .slice avY ys.length cvY) (b := w.heap.size) OV (by omega)) (by omega))
  have j1 := hd ((K2.setAll (.bool b) (.slice avX xs.length cvX) (.slice avY ys.length cvY)).far3 (x := .bool c) (y := .slice avU us.length cvU) (z := .slice avV vs.length cvV) hpq)
  have g1 := hd ((K3.far3 (x := .bool b) (y := .slice avX xs.length cvX) (z := .slice avY ys.length cvY) hqp).setAll (.bool c) (.slice avU us.length cvU) (.slice avV vs.length cvV))
  have b1 := hd (below_set3 (v0 := .bool c) (v1 := .slice avU us.length cvU) (v2 := .slice avV vs.length cvV) (b := w.heap.size + 1) (below_set3 (v0 := .bool b) (v1 := .slice avX xs.length cvX) (v2 := .slice avY ys.length cvY) (b := w.heap.size) hBB (by omega)) (by omega))
  clear OX OY OU OV
  go_wp2_with fail
  go_region
  all_goals
    go_wp2
    exact bodyPost_ret (resFracAdd2 j1.out.drew g1.out.drew rfl rfl) rfl ⟨⟨_, _, _, _, _, _, _, _, _, _, _, _, _, _, rfl, ⟨y1.out.drew.mono (by omega), z1.out.drew.mono (by omega)⟩, s1.out.drew.mono (by omega), t1.out.drew.mono (by omega)⟩, b1.out.drew⟩
end Go.Proofs.YtekhokemekaeoaaGreatDoor
