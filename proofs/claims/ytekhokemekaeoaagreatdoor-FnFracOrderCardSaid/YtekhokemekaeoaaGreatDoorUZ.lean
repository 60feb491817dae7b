/- Two fractions off a code, of which the second may be the first one turned round: in new memory. -/
import Derived.Test.YtekhokemekaeoaaGreatDoorUX
import Derived.Test.YtekhokemekaeoaaGreatDoorFN
namespace Go.Proofs.YtekhokemekaeoaaGreatDoor
open Go.RowKit
set_option linter.unusedVariables false
set_option maxRecDepth 100000

/-- two fractions in new memory, ok or not -/
def FF2 (w : World) (base : Nat) (e : Ending) : Prop := ∃ b av cv xs av' cv' ys c au cu ps au' cu' qs, e = .returned (.tuple #[.agg #[.bool b, .slice av (List.length xs) cv, .slice av' (List.length ys) cv'], .agg #[.bool c, .slice au (List.length ps) cu, .slice au' (List.length qs) cu']]) ∧ (OI w base av cv xs ∧ OI w base av' cv' ys) ∧ (OI w base au cu ps ∧ OI w base au' cu' qs)
theorem Cel3.far3 {W : World} {b c : Nat} {v0 v1 v2 x y z : Value} (h : Cel3 W b v0 v1 v2) (hn : b ≠ c) : Cel3 (((W.setCell ⟨c, 0, none⟩ x).setCell ⟨c, 1, none⟩ y).setCell ⟨c, 2, none⟩ z) b v0 v1 v2 := ((h.far hn).far hn).far hn
theorem below_set3 {n : Nat} {a W : World} {b : Nat} {v0 v1 v2 : Value} (h : Below n a W) (hb : n ≤ b) : Below n a (((W.setCell ⟨b, 0, none⟩ v0).setCell ⟨b, 1, none⟩ v1).setCell ⟨b, 2, none⟩ v2) := below_set (below_set (below_set h hb _) hb _) hb _
theorem resFracs {W : World} {b c : Nat} {v0 v1 v2 u0 u1 u2 : Value} {tmps : Array Value} (h : Cel3 W b v0 v1 v2) (h' : Cel3 W c u0 u1 u2) (ht : tmps[2]? = some (.pointer (some ⟨b, 0, none⟩))) (ht' : tmps[3]? = some (.pointer (some ⟨c, 0, none⟩))) : (results Tryz.f27 tmps).run Tryz.prog W = .ok (.tuple #[.agg #[v0, v1, v2], .agg #[u0, u1, u2]]) W := by
  obtain ⟨h1, ⟨a0, a1, a2⟩, -⟩ := h
  obtain ⟨h3, ⟨b0, b1, b2⟩, -⟩ := h'
  simp [results, Tryz.results27, go_sem, a0, a1, a2, b0, b1, b2, ht, ht']
set_option maxHeartbeats 1500000 in
theorem fracs_k (w : World) (a : Option Addr) (len cap : Nat) (h : IsCode w a len cap) :
    Calls Tryz.prog 27 #[.slice a len cap] w fun e w' => FF2 w' w.heap.size e ∧ Below w.heap.size w w' := by
  have e0 : Below w.heap.size w ((w.alloc (.cells #[.bool false, .slice none 0 0, .slice none 0 0] 25)).alloc (.cells #[.bool false, .slice none 0 0, .slice none 0 0] 25)) := (by repeat (first | exact Below.refl _ _ | refine Below.drew ?_ | refine old_alloc ?_ _ | refine old_trans ?_ (by assumption)))
  have K2 := (Cel3.new w (.bool false) (.slice none 0 0) (.slice none 0 0) 25).old (old_alloc (Below.refl _ _) (.cells #[.bool false, .slice none 0 0, .slice none 0 0] 25))
  have K3 := Cel3.new (w.alloc (.cells #[.bool false, .slice none 0 0, .slice none 0 0] 25)) (.bool false) (.slice none 0 0) (.slice none 0 0) 25
  simp only [World.size_alloc] at K3
  have hop := hd (open_kB _ a len cap (h.old e0))
  clear h
  have hs0 : w.heap.size + 2 ≤ ((w.alloc (.cells #[.bool false, .slice none 0 0, .slice none 0 0] 25)).alloc (.cells #[.bool false, .slice none 0 0, .slice none 0 0] 25)).heap.size := by simp
  go_enter Tryz.func27, Tryz.ntmps27
  go_wp2_with fail
  generalize ((w.alloc (.cells #[.bool false, .slice none 0 0, .slice none 0 0] 25)).alloc (.cells #[.bool false, .slice none 0 0, .slice none 0 0] 25)) = wz at *
  refine hop.out.mono ?_
  rintro e w1 ⟨rfl, o, rfl, hR⟩
  have hao : Below wz.heap.size wz (wz.alloc o) := old_alloc (Below.refl _ _) _
  replace K2 := K2.old hao
  replace K3 := K3.old hao
  have hso : wz.heap.size < (wz.alloc o).heap.size := by simp
  clear hop hao
  go_wp2_with fail
  refine (frac_k wz.heap.size 50000 _ (hR.mono (by omega))).mono ?_
  rintro e w2 ⟨⟨b, avX, cvX, xs, avY, cvY, ys, rfl, OX, OY, -, -⟩, R2, B2⟩
  have n2 : w.heap.size ≠ wz.heap.size := by omega
  have n3 : w.heap.size + 1 ≠ wz.heap.size := by omega
  replace K2 := K2.but B2 n2
  replace K3 := K3.but B2 n3
  have hs2 := B2.size
  replace OX := OX.mono (show wz.heap.size + 1 ≤ _ from hso)
  replace OY := OY.mono (show wz.heap.size + 1 ≤ _ from hso)
  have hOX : ∀ q, avX = some q → some q.block ≠ some wz.heap.size := fun q e1 e2 => by injection e2 with e2; have := OX.ge q e1; omega
  have hOY : ∀ q, avY = some q → some q.block ≠ some wz.heap.size := fun q e1 e2 => by injection e2 with e2; have := OY.ge q e1; omega
  have KA := Cel3.new w2 (.bool b) (.slice avX xs.length cvX) (.slice avY ys.length cvY) 25
  have hka := KA.1
  have hal : Below w2.heap.size w2 (w2.alloc (.cells #[.bool b, .slice avX xs.length cvX, .slice avY ys.length cvY] 25)) := old_alloc (Below.refl _ _) _
  replace OX := OX.later hal
  replace OY := OY.later hal
  replace K2 := K2.old hal
  replace K3 := K3.old hal
  replace R2 := R2.old hal
  replace B2 := B2.trans (But.of hal)
  have hs2' := hal.size
  clear hR
  go_wp2_with fail
  generalize w2.alloc (.cells #[.bool b, .slice avX xs.length cvX, .slice avY ys.length cvY] 25) = w2' at *
  clear hal
  refine (frac_k wz.heap.size 40000 _ (R2.mono (by omega))).mono ?_
  rintro e w3 ⟨⟨c, avU, cvU, us, avV, cvV, vs, rfl, OU, OV, -, -⟩, R3, B3⟩
  have nA : w2.heap.size ≠ wz.heap.size := by omega
  replace K2 := K2.but B3 n2
  replace K3 := K3.but B3 n3
  replace KA := KA.but B3 nA
  replace OX := OX.kept B3.grown hOX
  replace OY := OY.kept B3.grown hOY
  replace OU := OU.mono (show wz.heap.size + 1 ≤ _ by omega)
  replace OV := OV.mono (show wz.heap.size + 1 ≤ _ by omega)
  have hOU : ∀ q, avU = some q → some q.block ≠ some wz.heap.size := fun q e1 e2 => by injection e2 with e2; have := OU.ge q e1; omega
  have hOV : ∀ q, avV = some q → some q.block ≠ some wz.heap.size := fun q e1 e2 => by injection e2 with e2; have := OV.ge q e1; omega
  have hXlt := hd OX.lt
  have hYlt := hd OY.lt
  have hs3 := B3.size
  replace B3 := B2.trans B3
  clear R2 B2
  have KB := Cel3.new w3 (.bool c) (.slice avU us.length cvU) (.slice avV vs.length cvV) 25
  have hkb := KB.1
  have hal : Below w3.heap.size w3 (w3.alloc (.cells #[.bool c, .slice avU us.length cvU, .slice avV vs.length cvV] 25)) := old_alloc (Below.refl _ _) _
  replace OX := OX.later hal
  replace OY := OY.later hal
  replace OU := OU.later hal
  replace OV := OV.later hal
  replace K2 := K2.old hal
  replace K3 := K3.old hal
  replace KA := KA.old hal
  replace R3 := R3.old hal
  replace B3 := B3.trans (But.of hal)
  have hs3' := hal.size
  go_wp2_with fail
  generalize w3.alloc (.cells #[.bool c, .slice avU us.length cvU, .slice avV vs.length cvV] 25) = w3' at *
  clear hal
  refine (pick_k wz.heap.size 39999 _ _ R3 (by decide)).mono ?_
  rintro e w4 ⟨⟨t, ⟨ta, tb⟩, rfl⟩, R4, B4⟩
  have nB : w3.heap.size ≠ wz.heap.size := by omega
  replace K2 := K2.but B4 n2
  replace K3 := K3.but B4 n3
  replace KA := KA.but B4 nA
  replace KB := KB.but B4 nB
  replace OX := OX.kept B4.grown hOX
  replace OY := OY.kept B4.grown hOY
  replace OU := OU.kept B4.grown hOU
  replace OV := OV.kept B4.grown hOV
  have hs4 := B4.size
  have hBB := old_trans e0 (B3.trans B4).below
  clear R3 B3 B4 R4
  have nAB : w2.heap.size ≠ w3.heap.size := by omega
  have nBA : w3.heap.size ≠ w2.heap.size := by omega
  have nKA : w.heap.size ≠ w2.heap.size := by omega
  have nKB : w.heap.size ≠ w3.heap.size := by omega
  have nLA : w.heap.size + 1 ≠ w2.heap.size := by omega
  have nLB : w.heap.size + 1 ≠ w3.heap.size := by omega
  have fA : w2.heap.size < w4.heap.size := by omega
  have fB : w3.heap.size < w4.heap.size := by omega
  by_cases ht : t = 0
  case neg =>
    have ht' : (t == 0) = false := by simpa using ht
    generalize w2.heap.size = pa at *
    generalize w3.heap.size = pb at *
    have hpq : w.heap.size ≠ w.heap.size + 1 := by omega
    have hqp : w.heap.size + 1 ≠ w.heap.size := by omega
    obtain ⟨m1, ⟨m2, m3, m4⟩, m5, m6, m7⟩ := id K2
    obtain ⟨n1, ⟨n2, n3, n4⟩, n5, n6, n7⟩ := id K3
    obtain ⟨p1, ⟨p2, p3, p4⟩, -⟩ := id KA
    obtain ⟨q1, ⟨q2, q3, q4⟩, -⟩ := id KB
    have y1 := hd (oi_set3 (v0 := .bool c) (v1 := .slice avU us.length cvU) (v2 := .slice avV vs.length cvV) (b := w.heap.size + 1) (oi_set3 (v0 := .bool b) (v1 := .slice avX xs.length cvX) (v2 := .slice avY ys.length cvY) (b := w.heap.size) OX (by omega)) (by omega))
    have z1 := hd (oi_set3 (v0 := .bool c) (v1 := .slice avU us.length cvU) (v2 := .slice avV vs.length cvV) (b := w.heap.size + 1) (oi_set3 (v0 := .bool b) (v1 := .slice avX xs.length cvX) (v2 := .slice avY ys.length cvY) (b := w.heap.size) OY (by omega)) (by omega))
    have s1 := hd (oi_set3 (v0 := .bool c) (v1 := .slice avU us.length cvU) (v2 := .slice avV vs.length cvV) (b := w.heap.size + 1) (oi_set3 (v0 := .bool b) (v1 := .slice avX xs.length cvX) (v2 := .slice avY ys.length cvY) (b := w.heap.size) OU (by omega)) (by omega))
    have t1 := hd (oi_set3 (v0 := .bool c) (v1 := .slice avU us.length cvU) (v2 := .slice avV vs.length cvV) (b := w.heap.size + 1) (oi_set3 (v0 := .bool b) (v1 := .slice avX xs.length cvX) (v2 := .slice avY ys.length cvY) (b := w.heap.size) OV (by omega)) (by omega))
    have j1 := hd ((K2.setAll (.bool b) (.slice avX xs.length cvX) (.slice avY ys.length cvY)).far3 (x := .bool c) (y := .slice avU us.length cvU) (z := .slice avV vs.length cvV) hpq)
    have g1 := hd ((K3.far3 (x := .bool b) (y := .slice avX xs.length cvX) (z := .slice avY ys.length cvY) hqp).setAll (.bool c) (.slice avU us.length cvU) (.slice avV vs.length cvV))
    have b1 := hd (below_set3 (v0 := .bool c) (v1 := .slice avU us.length cvU) (v2 := .slice avV vs.length cvV) (b := w.heap.size + 1) (below_set3 (v0 := .bool b) (v1 := .slice avX xs.length cvX) (v2 := .slice avY ys.length cvY) (b := w.heap.size) hBB (by omega)) (by omega))
    clear OX OY OU OV
    go_wp2_with fail
    go_region
    all_goals
      go_wp2
      exact bodyPost_ret (resFracs j1.out.drew g1.out.drew rfl rfl) rfl ⟨⟨_, _, _, _, _, _, _, _, _, _, _, _, _, _, rfl, ⟨y1.out.drew.mono (by omega), z1.out.drew.mono (by omega)⟩, s1.out.drew.mono (by omega), t1.out.drew.mono (by omega)⟩, b1.out.drew⟩
  subst ht
  have NG := hd (sFracNeg b avX avY _ _ cvX cvY xs ys w4 OX.inI OY.inI)
  obtain ⟨p1, ⟨p2, p3, p4⟩, -⟩ := id KA
  clear OU OV
  go_wp2_with fail
  refine NG.out.mono ?_
  rintro e w5 ⟨⟨au, cu, au', cu', rfl, O1, O2, -⟩, hb5⟩
  generalize fS (fracOk b xs ys) (!b) (val xs) = sg at *
  generalize fT (fracOk b xs ys) (val xs) (val ys) = tl at *
  generalize fU (fracOk b xs ys) (val xs) (val ys) = ul at *
  generalize fracOk b xs ys = okk at *
  replace OX := OX.later hb5
  replace OY := OY.later hb5
  replace K2 := K2.old hb5
  replace K3 := K3.old hb5
  replace KA := KA.old hb5
  replace KB := KB.old hb5
  replace hBB := old_trans hBB hb5
  have hs5 := hb5.size
  clear p1 p2 p3 p4 NG hb5
  obtain ⟨q1, ⟨q2, q3, q4⟩, q5, q6, q7⟩ := id KB
  have KB' := KB.setAll (.bool sg) (.slice au tl.length cu) (.slice au' ul.length cu')
  have KA' := KA.far3 (x := .bool sg) (y := .slice au tl.length cu) (z := .slice au' ul.length cu') nAB
  have K2' := K2.far3 (x := .bool sg) (y := .slice au tl.length cu) (z := .slice au' ul.length cu') nKB
  have K3' := K3.far3 (x := .bool sg) (y := .slice au tl.length cu) (z := .slice au' ul.length cu') nLB
  have hBB' := below_set3 (v0 := .bool sg) (v1 := .slice au tl.length cu) (v2 := .slice au' ul.length cu') (b := w3.heap.size) hBB (by omega)
  have OX' := oi_far (fb := w3.heap.size) (i := 2) (v := .slice au' ul.length cu') (oi_far (fb := w3.heap.size) (i := 1) (v := .slice au tl.length cu) (oi_far (fb := w3.heap.size) (i := 0) (v := .bool sg) OX hXlt.out) hXlt.out) hXlt.out
  have OY' := oi_far (fb := w3.heap.size) (i := 2) (v := .slice au' ul.length cu') (oi_far (fb := w3.heap.size) (i := 1) (v := .slice au tl.length cu) (oi_far (fb := w3.heap.size) (i := 0) (v := .bool sg) OY hYlt.out) hYlt.out) hYlt.out
  have OU := (oi_set3 (b := w3.heap.size) (v0 := .bool sg) (v1 := .slice au tl.length cu) (v2 := .slice au' ul.length cu') O1 fB).mono (show wz.heap.size + 1 ≤ _ by omega)
  have OV := (oi_set3 (b := w3.heap.size) (v0 := .bool sg) (v1 := .slice au tl.length cu) (v2 := .slice au' ul.length cu') O2 fB).mono (show wz.heap.size + 1 ≤ _ by omega)
  clear OX OY KA K2 K3 KB hBB O1 O2
  go_upto_region 6 with fail
  clear q1 q2 q3 q4 q5 q6 q7
  generalize ((w5.setCell ⟨w3.heap.size, 0, none⟩ (.bool sg)).setCell ⟨w3.heap.size, 1, none⟩ (.slice au tl.length cu)).setCell ⟨w3.heap.size, 2, none⟩ (.slice au' ul.length cu') = w6 at *
  have OX := OX'
  have OY := OY'
  have KA := KA'
  have KB := KB'
  have K2 := K2'
  have K3 := K3'
  have hBB := hBB'
  clear OX' OY' KA' KB' K2' K3' hBB'
  generalize w2.heap.size = pa at *
  generalize w3.heap.size = pb at *
  have hpq : w.heap.size ≠ w.heap.size + 1 := by omega
  have hqp : w.heap.size + 1 ≠ w.heap.size := by omega
  obtain ⟨m1, ⟨m2, m3, m4⟩, m5, m6, m7⟩ := id K2
  obtain ⟨n1, ⟨n2, n3, n4⟩, n5, n6, n7⟩ := id K3
  obtain ⟨p1, ⟨p2, p3, p4⟩, -⟩ := id KA
  obtain ⟨q1, ⟨q2, q3, q4⟩, -⟩ := id KB
  have y1 := hd (oi_set3 (v0 := .bool sg) (v1 := .slice au tl.length cu) (v2 := .slice au' ul.length cu') (b := w.heap.size + 1) (oi_set3 (v0 := .bool b) (v1 := .slice avX xs.length cvX) (v2 := .slice avY ys.length cvY) (b := w.heap.size) OX (by omega)) (by omega))
  have z1 := hd (oi_set3 (v0 := .bool sg) (v1 := .slice au tl.length cu) (v2 := .slice au' ul.length cu') (b := w.heap.size + 1) (oi_set3 (v0 := .bool b) (v1 := .slice avX xs.length cvX) (v2 := .slice avY ys.length cvY) (b := w.heap.size) OY (by omega)) (by omega))
  have s1 := hd (oi_set3 (v0 := .bool sg) (v1 := .slice au tl.length cu) (v2 := .slice au' ul.length cu') (b := w.heap.size + 1) (oi_set3 (v0 := .bool b) (v1 := .slice avX xs.length cvX) (v2 := .slice avY ys.length cvY) (b := w.heap.size) OU (by omega)) (by omega))
  have t1 := hd (oi_set3 (v0 := .bool sg) (v1 := .slice au tl.length cu) (v2 := .slice au' ul.length cu') (b := w.heap.size + 1) (oi_set3 (v0 := .bool b) (v1 := .slice avX xs.length cvX) (v2 := .slice avY ys.length cvY) (b := w.heap.size) OV (by omega)) (by omega))
  have j1 := hd ((K2.setAll (.bool b) (.slice avX xs.length cvX) (.slice avY ys.length cvY)).far3 (x := .bool sg) (y := .slice au tl.length cu) (z := .slice au' ul.length cu') hpq)
  have g1 := hd ((K3.far3 (x := .bool b) (y := .slice avX xs.length cvX) (z := .slice avY ys.length cvY) hqp).setAll (.bool sg) (.slice au tl.length cu) (.slice au' ul.length cu'))
  have b1 := hd (below_set3 (v0 := .bool sg) (v1 := .slice au tl.length cu) (v2 := .slice au' ul.length cu') (b := w.heap.size + 1) (below_set3 (v0 := .bool b) (v1 := .slice avX xs.length cvX) (v2 := .slice avY ys.length cvY) (b := w.heap.size) hBB (by omega)) (by omega))
  clear OX OY OU OV
  go_wp2_with fail
  go_region
  all_goals
    go_wp2
    exact bodyPost_ret (resFracs j1.out.drew g1.out.drew rfl rfl) rfl ⟨⟨_, _, _, _, _, _, _, _, _, _, _, _, _, _, rfl, ⟨y1.out.drew.mono (by omega), z1.out.drew.mono (by omega)⟩, s1.out.drew.mono (by omega), t1.out.drew.mono (by omega)⟩, b1.out.drew⟩
end Go.Proofs.YtekhokemekaeoaaGreatDoor
