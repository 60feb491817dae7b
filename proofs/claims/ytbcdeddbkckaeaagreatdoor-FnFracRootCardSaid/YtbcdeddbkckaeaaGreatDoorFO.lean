/- What a rule makes of two fractions, in lowest terms: of whatever function that answers with a ratio and writes nothing that was there. Conditions: the library's table and its handle of errors hold what their texts lay. -/
import Derived.Test.YtbcdeddbkckaeaaGreatDoorFM
namespace Go.Proofs.YtbcdeddbkckaeaaGreatDoor
open Go.RowKit
set_option linter.unusedVariables false
set_option maxRecDepth 100000

theorem resTwo1 {W : World} {b : Nat} {v0 v1 v2 r : Value} {tmps : Array Value} (h : Cel3 W b v0 v1 v2) (ht : tmps[4]? = some (.pointer (some ⟨b, 0, none⟩))) (h3 : tmps[5]? = some r) : (results Tryz.f59 tmps).run Tryz.prog W = .ok (.tuple #[.agg #[v0, v1, v2], r]) W := by
  obtain ⟨h1, ⟨a0, a1, a2⟩, -⟩ := h
  simp [results, Tryz.results59, go_sem, a0, a1, a2, ht, h3]
set_option maxHeartbeats 8000000 in
theorem iTwo1 (g : Nat) (bl : Bool) (a b : Option Addr) (la lb ca cb : Nat) (xs ys : List Int) (bm : Bool) (c d : Option Addr) (lc ld cc cd : Nat) (us vs : List Int) (p q : Nat) (w : World) (hpq : p < w.heap.size ∧ q < w.heap.size) (hP : w.cell? ⟨p, 0, none⟩ = some (.bool bm) ∧ w.cell? ⟨p, 1, none⟩ = some (.slice c lc cc) ∧ w.cell? ⟨p, 2, none⟩ = some (.slice d ld cd)) (hq : w.cell? ⟨q, 0, none⟩ = some (.func (.func g) #[] #[]))
    (hC : InI w c lc cc us) (hD : InI w d ld cd vs) (hT : Tab w)
    (hEnt : ∀ args w, (callFunc g args).run Tryz.prog w = .ok (.enter g args) w) (s : Bool) (A B : Nat)
    (hG : fracOk bm us vs = true → ∀ W, Below w.heap.size w W → Calls Tryz.prog g #[.agg #[.bool bl, .slice a la ca, .slice b lb cb], .agg #[.bool bm, .slice c lc cc, .slice d ld cd]] W fun e W' => (∃ a1 c1 a2 c2, e = .returned (.agg #[.bool s, .slice a1 (natL A).length c1, .slice a2 (natL B).length c2]) ∧ OI W' W.heap.size a1 c1 (natL A) ∧ OI W' W.heap.size a2 c2 (natL B)) ∧ Below W.heap.size W W') :
    Calls Tryz.prog 59 (#[.agg #[.bool bl, .slice a la ca, .slice b lb cb]] ++ #[.pointer (some ⟨p, 0, none⟩), .pointer (some ⟨q, 0, none⟩)]) w fun e w' => RRes w' e (fracOk bm us vs) s A B ∧ Below w.heap.size w w' := by
  show Calls _ _ #[.agg #[.bool bl, .slice a la ca, .slice b lb cb], .pointer (some ⟨p, 0, none⟩), .pointer (some ⟨q, 0, none⟩)] _ _
  have e0 : Below w.heap.size w ((w.alloc (.cells #[.bool bl, .slice a la ca, .slice b lb cb] 53)).alloc (.cells #[.bool false, .slice none 0 0, .slice none 0 0] 53)) := (by repeat (first | exact Below.refl _ _ | refine Below.drew ?_ | refine old_alloc ?_ _ | refine old_trans ?_ (by assumption)))
  have K1 := (Cel3.new w (.bool bl) (.slice a la ca) (.slice b lb cb) 53).old (old_alloc (Below.refl _ _) (.cells #[.bool false, .slice none 0 0, .slice none 0 0] 53))
  have K2 := Cel3.new (w.alloc (.cells #[.bool bl, .slice a la ca, .slice b lb cb] 53)) (.bool false) (.slice none 0 0) (.slice none 0 0) 53
  simp only [World.size_alloc] at K2
  have R := hd (iRatioOf bm c d lc ld cc cd us vs _ (hC.old e0) (hD.old e0) (hT.old e0))
  have p0 := (e0.cell (p := ⟨p, 0, none⟩) hpq.1).trans hP.1
  have p1 := (e0.cell (p := ⟨p, 1, none⟩) hpq.1).trans hP.2.1
  have p2 := (e0.cell (p := ⟨p, 2, none⟩) hpq.1).trans hP.2.2
  have hqlt := hpq.2
  have hplt := hpq.1
  have hne1 : p ≠ w.heap.size := by omega
  have hne2 : p ≠ w.heap.size + 1 := by omega
  have G := hd hG
  clear hG hC hD hT
  go_enter Tryz.func59, Tryz.ntmps59
  go_wp2_with fail
  refine R.out.mono ?_
  rintro e w1 ⟨he, hb1⟩
  replace K1 := K1.old hb1
  replace K2 := K2.old hb1
  have hB1 := old_trans e0 hb1
  have hK0 := K2.1
  clear R hb1 e0 p0 p1 p2
  rcases he with ⟨hf, rfl⟩ | ⟨hf, f, rfl⟩
  rotate_left
  · have hB2 := old_alloc hB1 (.cells #[.bool false, .slice none 0 0, .slice none 0 0] 53)
    have hK := K2.setAll (.bool false) (.slice none 0 0) (.slice none 0 0)
    have hf' := hd hf
    obtain ⟨m1, ⟨m2, m3, m4⟩, m5, m6, m7⟩ := id K2
    clear G hf
    go_wp2
    exact bodyPost_ret (resTwo1 (hK.old (old_alloc (Below.refl _ _) _)) rfl rfl) rfl ⟨.inr ⟨hf'.out, _, rfl⟩, old_alloc (below_set (below_set (below_set hB1 (by omega) _) (by omega) _) (by omega) _) _⟩
  have hal : Below w1.heap.size w1 (w1.alloc (.cells #[.bool bm, .slice c lc cc, .slice d ld cd] 53)) := old_alloc (Below.refl _ _) _
  have hB2 := old_trans hB1 hal
  replace K1 := K1.old hal
  replace K2 := K2.old hal
  have q0 := (hB2.cell (p := ⟨q, 0, none⟩) hqlt).trans hq
  have hq1 := (hB1.cell (p := ⟨q, 0, none⟩) hqlt).trans hq
  have G1 := hd (G.out hf _ hB2)
  have hf' := hd hf
  obtain ⟨k1, ⟨k2, k3, k4⟩, -⟩ := id K1
  clear G hf hal
  go_wp2_with fail
  refine G1.out.mono ?_
  rintro e w3 ⟨⟨a1, c1, a2, c2, rfl, hI1, hI2⟩, hb3⟩
  replace K2 := K2.old hb3
  have hB3 := old_trans hB2 hb3
  obtain ⟨m1, ⟨m2, m3, m4⟩, m5, m6, m7⟩ := id K2
  have hs0 : w.heap.size + 1 < (w1.alloc (.cells #[.bool bm, .slice c lc cc, .slice d ld cd] 53)).heap.size := by
    have := hB1.size
    have := m1
    have := hK0
    simp
    omega
  have j1 := (oi_set3 (b := w.heap.size + 1) (v0 := .bool s) (v1 := .slice a1 (natL A).length c1) (v2 := .slice a2 (natL B).length c2) hI1 hs0).inI
  have j2 := (oi_set3 (b := w.heap.size + 1) (v0 := .bool s) (v1 := .slice a1 (natL A).length c1) (v2 := .slice a2 (natL B).length c2) hI2 hs0).inI
  have hK := K2.setAll (.bool s) (.slice a1 (natL A).length c1) (.slice a2 (natL B).length c2)
  clear hI1 hI2 hb3 hB2 G1
  go_wp2
  exact bodyPost_ret (resTwo1 hK rfl rfl) rfl ⟨.inl ⟨hf'.out, a1, c1, a2, c2, rfl, j1, j2⟩, below_set (below_set (below_set hB3 (by omega) _) (by omega) _) (by omega) _⟩
theorem resTwo {W : World} {b : Nat} {v0 v1 v2 r : Value} {tmps : Array Value} (h : Cel3 W b v0 v1 v2) (ht : tmps[6]? = some (.pointer (some ⟨b, 0, none⟩))) (h3 : tmps[7]? = some r) : (results Tryz.f35 tmps).run Tryz.prog W = .ok (.tuple #[.agg #[v0, v1, v2], r]) W := by
  obtain ⟨h1, ⟨a0, a1, a2⟩, -⟩ := h
  simp [results, Tryz.results35, go_sem, a0, a1, a2, ht, h3]
set_option maxHeartbeats 8000000 in
theorem iOfTwo (g : Nat) (bl : Bool) (a b : Option Addr) (la lb ca cb : Nat) (xs ys : List Int) (bm : Bool) (c d : Option Addr) (lc ld cc cd : Nat) (us vs : List Int) (w : World) (hA : InI w a la ca xs) (hB : InI w b lb cb ys) (hC : InI w c lc cc us) (hD : InI w d ld cd vs) (hT : Tab w) (hE : ET w)
    (hEnt : ∀ args w, (callFunc g args).run Tryz.prog w = .ok (.enter g args) w) (s : Bool) (A B : Nat) (hlA : (natL A).length ≤ 1024) (hlB : (natL B).length ≤ 1024)
    (hG : fracOk bl xs ys = true → fracOk bm us vs = true → ∀ W, Below w.heap.size w W → Calls Tryz.prog g #[.agg #[.bool bl, .slice a la ca, .slice b lb cb], .agg #[.bool bm, .slice c lc cc, .slice d ld cd]] W fun e W' => (∃ a1 c1 a2 c2, e = .returned (.agg #[.bool s, .slice a1 (natL A).length c1, .slice a2 (natL B).length c2]) ∧ OI W' W.heap.size a1 c1 (natL A) ∧ OI W' W.heap.size a2 c2 (natL B)) ∧ Below W.heap.size W W') :
    Calls Tryz.prog 35 #[.agg #[.bool bl, .slice a la ca, .slice b lb cb], .agg #[.bool bm, .slice c lc cc, .slice d ld cd], .func (.func g) #[] #[]] w fun e w' => FRes w' w.heap.size e (fracOk bl xs ys && (fracOk bm us vs && lowB A B)) s A B ∧ Below w.heap.size w w' := by
  have e0 : Below w.heap.size w ((((w.alloc (.cells #[.bool bl, .slice a la ca, .slice b lb cb] 26)).alloc (.cells #[.bool bm, .slice c lc cc, .slice d ld cd] 26)).alloc (.cells #[.func (.func g) #[] #[]] 59)).alloc (.cells #[.bool false, .slice none 0 0, .slice none 0 0] 26)) := (by repeat (first | exact Below.refl _ _ | refine Below.drew ?_ | refine old_alloc ?_ _ | refine old_trans ?_ (by assumption)))
  have K2 := Cel3.new (((w.alloc (.cells #[.bool bl, .slice a la ca, .slice b lb cb] 26)).alloc (.cells #[.bool bm, .slice c lc cc, .slice d ld cd] 26)).alloc (.cells #[.func (.func g) #[] #[]] 59)) (.bool false) (.slice none 0 0) (.slice none 0 0) 26
  have K1 := ((Cel3.new (w.alloc (.cells #[.bool bl, .slice a la ca, .slice b lb cb] 26)) (.bool bm) (.slice c lc cc) (.slice d ld cd) 26).old (old_alloc (Below.refl _ _) (.cells #[.func (.func g) #[] #[]] 59))).old (old_alloc (Below.refl _ _) (.cells #[.bool false, .slice none 0 0, .slice none 0 0] 26))
  simp only [World.size_alloc] at K1 K2
  have kq : ((((w.alloc (.cells #[.bool bl, .slice a la ca, .slice b lb cb] 26)).alloc (.cells #[.bool bm, .slice c lc cc, .slice d ld cd] 26)).alloc (.cells #[.func (.func g) #[] #[]] 59)).alloc (.cells #[.bool false, .slice none 0 0, .slice none 0 0] 26)).cell? ⟨w.heap.size + 1 + 1, 0, none⟩ = some (.func (.func g) #[] #[]) := by
    rw [World.cell?_alloc_lt _ _ ⟨w.heap.size + 1 + 1, 0, none⟩ (by simp), World.cell?_alloc_at _ _ _ _ (by simp)]
    rfl
  have hql : w.heap.size + 1 + 1 < ((((w.alloc (.cells #[.bool bl, .slice a la ca, .slice b lb cb] 26)).alloc (.cells #[.bool bm, .slice c lc cc, .slice d ld cd] 26)).alloc (.cells #[.func (.func g) #[] #[]] 59)).alloc (.cells #[.bool false, .slice none 0 0, .slice none 0 0] 26)).heap.size := by simp
  have O := hd (iOfOne 59 #[.pointer (some ⟨w.heap.size + 1, 0, none⟩), .pointer (some ⟨w.heap.size + 1 + 1, 0, none⟩)] bl a b la lb ca cb xs ys _ (hA.old e0) (hB.old e0) (hT.old e0) (hE.old e0) (enters_of Tryz.func59 (by kernel_rfl) rfl) (fracOk bm us vs) s A B hlA hlB
    (fun h1 W hW => iTwo1 g bl a b la lb ca cb xs ys bm c d lc ld cc cd us vs (w.heap.size + 1) (w.heap.size + 1 + 1) W ⟨(K1.old hW).1, Nat.lt_of_lt_of_le hql hW.size⟩ ⟨(K1.old hW).c0, (K1.old hW).c1, (K1.old hW).c2⟩ ((hW.cell (p := ⟨w.heap.size + 1 + 1, 0, none⟩) hql).trans kq) (hC.old (old_trans e0 hW)) (hD.old (old_trans e0 hW)) (hT.old (old_trans e0 hW)) hEnt s A B (fun h2 W' hW' => hG h1 h2 W' (old_trans (old_trans e0 hW) hW'))))
  clear hA hB hC hD hT hE hG hEnt kq hql K1
  generalize (fracOk bl xs ys && (fracOk bm us vs && lowB A B)) = okk at *
  go_enter Tryz.func35, Tryz.ntmps35
  go_wp2_with fail
  refine O.out.mono ?_
  rintro e w1 ⟨⟨av, cv, av', cv', rfl, hO, hO', hS⟩, hb1⟩
  have hs0 := K2.1
  replace K2 := K2.old hb1
  have hB1 := old_trans e0 hb1
  obtain ⟨m1, ⟨m2, m3, m4⟩, m5, m6, m7⟩ := id K2
  have hfin := hd (FRes.put (w' := w1) (s := s) (base := w.heap.size) hO hO' hS e0.size hs0)
  have hK := K2.setAll (.bool (fS okk s A)) (.slice av (fT okk A B).length cv) (.slice av' (fU okk A B).length cv')
  have hBF := below_set (below_set (below_set hB1 (show w.heap.size ≤ w.heap.size + 1 + 1 + 1 by omega) (i := 0) (.bool (fS okk s A))) (show w.heap.size ≤ w.heap.size + 1 + 1 + 1 by omega) (i := 1) (.slice av (fT okk A B).length cv)) (show w.heap.size ≤ w.heap.size + 1 + 1 + 1 by omega) (i := 2) (.slice av' (fU okk A B).length cv')
  clear hO hO' hS hb1 O e0 hs0
  generalize hsg : fS okk s A = sg at *
  go_wp2
  exact bodyPost_ret (resTwo hK rfl rfl) rfl ⟨hfin.out, hBF⟩
end Go.Proofs.YtbcdeddbkckaeaaGreatDoor
