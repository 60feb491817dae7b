/- Sums of fractions: the specification. No condition. -/
import Derived.Test.YtekhokemekaeoaaGreatDoorFV
namespace Go.Proofs.YtekhokemekaeoaaGreatDoor
open Go.RowKit
set_option linter.unusedVariables false
set_option maxRecDepth 100000

theorem resFracAddS {W : World} {b : Nat} {v0 v1 v2 r : Value} {tmps : Array Value} (h : Cel3 W b v0 v1 v2) (ht : tmps[4]? = some (.pointer (some ⟨b, 0, none⟩))) (h3 : tmps[5]? = some r) : (results Tryz.f9 tmps).run Tryz.prog W = .ok (.tuple #[.agg #[v0, v1, v2], r]) W := by
  obtain ⟨h1, ⟨a0, a1, a2⟩, -⟩ := h
  simp [results, Tryz.results9, go_sem, a0, a1, a2, ht, h3]
set_option maxHeartbeats 8000000 in
theorem sFracAdd (bl : Bool) (a b : Option Addr) (la lb ca cb : Nat) (xs ys : List Int) (bm : Bool) (c d : Option Addr) (lc ld cc cd : Nat) (us vs : List Int) (w : World) (hA : InI w a la ca xs) (hB : InI w b lb cb ys) (hC : InI w c lc cc us) (hD : InI w d ld cd vs) :
    Calls Tryz.prog 9 #[.agg #[.bool bl, .slice a la ca, .slice b lb cb], .agg #[.bool bm, .slice c lc cc, .slice d ld cd]] w fun e w' => FRes w' w.heap.size e (fracOk bl xs ys && (fracOk bm us vs && lowB (sumN bl bm (val xs * val vs) (val us * val ys)) (val ys * val vs))) (sumS bl bm (val xs * val vs) (val us * val ys)) (sumN bl bm (val xs * val vs) (val us * val ys)) (val ys * val vs) ∧ Below w.heap.size w w' := by
  have e0 : Below w.heap.size w (((w.alloc (.cells #[.bool bl, .slice a la ca, .slice b lb cb] 25)).alloc (.cells #[.bool bm, .slice c lc cc, .slice d ld cd] 25)).alloc (.cells #[.bool false, .slice none 0 0, .slice none 0 0] 25)) := (by repeat (first | exact Below.refl _ _ | refine Below.drew ?_ | refine old_alloc ?_ _ | refine old_trans ?_ (by assumption)))
  have K1 := ((Cel3.new w (.bool bl) (.slice a la ca) (.slice b lb cb) 25).old (old_alloc (Below.refl _ _) (.cells #[.bool bm, .slice c lc cc, .slice d ld cd] 25))).old (old_alloc (Below.refl _ _) (.cells #[.bool false, .slice none 0 0, .slice none 0 0] 25))
  have K2 := (Cel3.new (w.alloc (.cells #[.bool bl, .slice a la ca, .slice b lb cb] 25)) (.bool bm) (.slice c lc cc) (.slice d ld cd) 25).old (old_alloc (Below.refl _ _) (.cells #[.bool false, .slice none 0 0, .slice none 0 0] 25))
  have K3 := Cel3.new ((w.alloc (.cells #[.bool bl, .slice a la ca, .slice b lb cb] 25)).alloc (.cells #[.bool bm, .slice c lc cc, .slice d ld cd] 25)) (.bool false) (.slice none 0 0) (.slice none 0 0) 25
  simp only [World.size_alloc] at K2 K3
  have O1 := hd (sFracOk bl a b la lb ca cb xs ys _ (hA.old e0) (hB.old e0))
  have O2 := hd (fun w' (h : Below w.heap.size w w') => sFracOk bm c d lc ld cc cd us vs w' (hC.old h) (hD.old h))
  cases hf : fracOk bl xs ys
  · rw [hf] at O1
    show Calls _ _ _ _ fun e w' => FRes w' w.heap.size e false (sumS bl bm (val xs * val vs) (val us * val ys)) (sumN bl bm (val xs * val vs) (val us * val ys)) (val ys * val vs) ∧ Below w.heap.size w w'
    clear hf O2
    go_enter Tryz.func9, Tryz.ntmps9
    go_wp2_with fail
    refine O1.out.mono ?_
    rintro e w1 ⟨rfl, hb1⟩
    replace K3 := K3.old hb1
    have hB1 := old_trans e0 hb1
    obtain ⟨m1, ⟨m2, m3, m4⟩, m5, m6, m7⟩ := id K3
    go_wp2
    exact bodyPost_ret (resFracAddS (K3.setAll (.bool false) (.slice none 0 0) (.slice none 0 0)) rfl rfl) rfl ⟨FRes.no _ _ _ _ _, below_set (below_set (below_set hB1 (by omega) _) (by omega) _) (by omega) _⟩
  rw [hf] at O1
  cases hg : fracOk bm us vs
  · rw [hg] at O2
    show Calls _ _ _ _ fun e w' => FRes w' w.heap.size e false (sumS bl bm (val xs * val vs) (val us * val ys)) (sumN bl bm (val xs * val vs) (val us * val ys)) (val ys * val vs) ∧ Below w.heap.size w w'
    clear hf hg
    go_enter Tryz.func9, Tryz.ntmps9
    go_wp2_with fail
    refine O1.out.mono ?_
    rintro e w1 ⟨rfl, hb1⟩
    replace K2 := K2.old hb1
    replace K3 := K3.old hb1
    have hB1 := old_trans e0 hb1
    obtain ⟨k1, ⟨k2, k3, k4⟩, -⟩ := id K2
    go_wp2_with fail
    refine (O2.out _ hB1).mono ?_
    rintro e w2 ⟨rfl, hb2⟩
    replace K3 := K3.old hb2
    have hB2 := old_trans hB1 hb2
    obtain ⟨m1, ⟨m2, m3, m4⟩, m5, m6, m7⟩ := id K3
    go_wp2
    exact bodyPost_ret (resFracAddS (K3.setAll (.bool false) (.slice none 0 0) (.slice none 0 0)) rfl rfl) rfl ⟨FRes.no _ _ _ _ _, below_set (below_set (below_set hB2 (by omega) _) (by omega) _) (by omega) _⟩
  rw [hg] at O2
  have q := fracOk_in hf
  have r := fracOk_in hg
  have q1 := natOk_in q.1
  have q2 := natOk_in q.2.1
  have r1 := natOk_in r.1
  have r2 := natOk_in r.2.1
  have pA := hA.1
  have pB := hB.1
  have pC := hC.1
  have pD := hD.1
  have lT := sumN_lenG (bl := bl) (bm := bm) (natOk_lt q.1) (natOk_lt r.2.1) (natOk_lt r.1) (natOk_lt q.2.1)
  have lU := mul_len4 q.2.1 r.2.1
  have hnz : val ys * val vs ≠ 0 := Nat.mul_ne_zero (lowB_in (fracOk_low hf).1).1 (lowB_in (fracOk_low hg).1).1
  show Calls _ _ _ _ fun e w' => FRes w' w.heap.size e (lowB (sumN bl bm (val xs * val vs) (val us * val ys)) (val ys * val vs)) (sumS bl bm (val xs * val vs) (val us * val ys)) (sumN bl bm (val xs * val vs) (val us * val ys)) (val ys * val vs) ∧ Below w.heap.size w w'
  have SM := hd (fun w' (h : Below w.heap.size w w') => sL6Sum bl a b la lb ca cb xs ys bm c d lc ld cc cd us vs w' (hA.old h) (hB.old h) (hC.old h) (hD.old h) q1.2.1 q2.2.1 r1.2.1 r2.2.1 (by omega) (by omega) (by omega) (by omega))
  clear hA hB hC hD q r q1 q2 r1 r2 pA pB pC pD hf hg
  generalize sumN bl bm (val xs * val vs) (val us * val ys) = A at *
  generalize sumS bl bm (val xs * val vs) (val us * val ys) = s2 at *
  generalize val ys * val vs = B at *
  have MK := hd (fun av av' cv cv' w' (h1 : InI w' av (natL A).length cv (natL A)) (h2 : InI w' av' (natL B).length cv' (natL B)) => sL6Make s2 av av' cv cv' A B w' h1 h2 (by omega) (by omega) hnz)
  clear lT lU hnz
  generalize lowB A B = okk at *
  go_enter Tryz.func9, Tryz.ntmps9
  go_wp2_with fail
  refine O1.out.mono ?_
  rintro e w1 ⟨rfl, hb1⟩
  replace K1 := K1.old hb1
  replace K2 := K2.old hb1
  replace K3 := K3.old hb1
  have hB1 := old_trans e0 hb1
  obtain ⟨k1, ⟨k2, k3, k4⟩, -⟩ := id K2
  clear hb1 e0
  go_wp2_with fail
  refine (O2.out _ hB1).mono ?_
  rintro e w2 ⟨rfl, hb2⟩
  replace K1 := K1.old hb2
  replace K2 := K2.old hb2
  replace K3 := K3.old hb2
  have hB2 := old_trans hB1 hb2
  clear hb2 hB1 k1 k2 k3 k4 O1 O2
  obtain ⟨k1, ⟨k2, k3, k4⟩, -⟩ := id K1
  obtain ⟨j1, ⟨j2, j3, j4⟩, -⟩ := id K2
  go_wp2_with fail
  refine (SM.out _ hB2).mono ?_
  rintro e w4 ⟨⟨a1, c1, a2, c2, rfl, hO1, hO2⟩, hb4⟩
  replace K3 := K3.old hb4
  have hB4 := old_trans hB2 hb4
  have hs0 := K3.1
  clear k1 k2 k3 k4 j1 j2 j3 j4 hb4
  go_wp2_with fail
  refine (MK.out _ _ _ _ _ hO1.inI hO2.inI).mono ?_
  rintro e w6 ⟨⟨av, cv, av', cv', rfl, hO, hO', hS⟩, hb6⟩
  replace K3 := K3.old hb6
  have hB6 := old_trans hB4 hb6
  obtain ⟨m1, ⟨m2, m3, m4⟩, m5, m6, m7⟩ := id K3
  have hfin := hd (FRes.put (w' := w6) (s := s2) (base := w.heap.size) hO hO' hS hB4.size hs0)
  have hK := K3.setAll (.bool (fS okk s2 A)) (.slice av (fT okk A B).length cv) (.slice av' (fU okk A B).length cv')
  have hBG := below_set (below_set (below_set hB6 (show w.heap.size ≤ w.heap.size + 1 + 1 by omega) (i := 0) (.bool (fS okk s2 A))) (show w.heap.size ≤ w.heap.size + 1 + 1 by omega) (i := 1) (.slice av (fT okk A B).length cv)) (show w.heap.size ≤ w.heap.size + 1 + 1 by omega) (i := 2) (.slice av' (fU okk A B).length cv')
  clear hO hO' hO1 hO2 hS
  generalize fS okk s2 A = sg at *
  go_wp2
  exact bodyPost_ret (resFracAddS hK rfl rfl) rfl ⟨hfin.out, hBG⟩
end Go.Proofs.YtekhokemekaeoaaGreatDoor
