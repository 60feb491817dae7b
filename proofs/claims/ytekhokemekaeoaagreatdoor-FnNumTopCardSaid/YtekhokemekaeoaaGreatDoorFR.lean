/- Quotients of fractions: by the program and by the specification. Conditions, of the program: the library's table and its handle of errors hold what their texts lay. -/
import Derived.Test.YtekhokemekaeoaaGreatDoorFQ
namespace Go.Proofs.YtekhokemekaeoaaGreatDoor
open Go.RowKit
set_option linter.unusedVariables false
set_option maxRecDepth 100000

set_option maxHeartbeats 1000000 in
theorem iTurned (a b : Option Addr) (la lb ca cb : Nat) (w : World) : Calls Tryz.prog 73 #[.agg #[.slice a la ca, .slice b lb cb]] w fun e w' => e = .returned (.agg #[.slice b lb cb, .slice a la ca]) ∧ Below w.heap.size w w' := by
  go_enter Tryz.func73, Tryz.ntmps73
  go_wp2
  refine bodyPost_ret (v := .agg #[.slice b lb cb, .slice a la ca]) ?_ rfl ⟨rfl, (by repeat (first | exact Below.refl _ _ | refine Below.drew ?_ | refine Below.setCell ?_ (by first | (simp; done) | omega | (simp; omega)) _ | refine old_alloc ?_ _ | refine old_trans ?_ (by assumption)))⟩
  simp [results, Tryz.results73, go_sem]
theorem resBy {W : World} {b : Nat} {v0 v1 v2 : Value} {tmps : Array Value} (h : Cel3 W b v0 v1 v2) (ht : tmps[4]? = some (.pointer (some ⟨b, 0, none⟩))) : (results Tryz.f42 tmps).run Tryz.prog W = .ok (.agg #[v0, v1, v2]) W := by
  obtain ⟨h1, ⟨a0, a1, a2⟩, -⟩ := h
  simp [results, Tryz.results42, go_sem, a0, a1, a2, ht]
set_option maxHeartbeats 8000000 in
theorem iBy (bl : Bool) (a b : Option Addr) (la lb ca cb : Nat) (xs ys : List Int) (bm : Bool) (c d : Option Addr) (lc ld cc cd : Nat) (us vs : List Int) (w : World) (hA : InI w a la ca xs) (hB : InI w b lb cb ys) (hC : InI w c lc cc us) (hD : InI w d ld cd vs) (dx : digs xs) (dy : digs ys) (du : digs us) (dv : digs vs) (la1 : la ≤ 1024) (lb1 : lb ≤ 1024) (lc1 : lc ≤ 1024) (ld1 : ld ≤ 1024) :
    Calls Tryz.prog 42 #[.agg #[.bool bl, .slice a la ca, .slice b lb cb], .agg #[.bool bm, .slice c lc cc, .slice d ld cd]] w fun e w' => (∃ a1 c1 a2 c2, e = .returned (.agg #[.bool (!(bl == bm)), .slice a1 (natL (val xs * val vs)).length c1, .slice a2 (natL (val ys * val us)).length c2]) ∧ OI w' w.heap.size a1 c1 (natL (val xs * val vs)) ∧ OI w' w.heap.size a2 c2 (natL (val ys * val us))) ∧ Below w.heap.size w w' := by
  have e0 : Below w.heap.size w (((w.alloc (.cells #[.bool bl, .slice a la ca, .slice b lb cb] 48)).alloc (.cells #[.bool bm, .slice c lc cc, .slice d ld cd] 48)).alloc (.cells #[.bool false, .slice none 0 0, .slice none 0 0] 48)) := (by repeat (first | exact Below.refl _ _ | refine Below.drew ?_ | refine old_alloc ?_ _ | refine old_trans ?_ (by assumption)))
  have K1 := ((Cel3.new w (.bool bl) (.slice a la ca) (.slice b lb cb) 48).old (old_alloc (Below.refl _ _) (.cells #[.bool bm, .slice c lc cc, .slice d ld cd] 48))).old (old_alloc (Below.refl _ _) (.cells #[.bool false, .slice none 0 0, .slice none 0 0] 48))
  have K2 := (Cel3.new (w.alloc (.cells #[.bool bl, .slice a la ca, .slice b lb cb] 48)) (.bool bm) (.slice c lc cc) (.slice d ld cd) 48).old (old_alloc (Below.refl _ _) (.cells #[.bool false, .slice none 0 0, .slice none 0 0] 48))
  have K3 := Cel3.new ((w.alloc (.cells #[.bool bl, .slice a la ca, .slice b lb cb] 48)).alloc (.cells #[.bool bm, .slice c lc cc, .slice d ld cd] 48)) (.bool false) (.slice none 0 0) (.slice none 0 0) 48
  simp only [World.size_alloc] at K2 K3
  have T1 := hd (iTurned c d lc ld cc cd)
  have T2 := hd (fun w' (h : Below w.heap.size w w') => iTimesR bl a b la lb ca cb xs ys bm d c ld lc cd cc vs us w' (hA.old h) (hB.old h) (hD.old h) (hC.old h) dx dy dv du la1 lb1 ld1 lc1)
  clear hA hB hC hD dx dy du dv la1 lb1 lc1 ld1
  generalize natL (val xs * val vs) = tl at *
  generalize natL (val ys * val us) = ul at *
  generalize (!(bl == bm)) = sg at *
  go_enter Tryz.func42, Tryz.ntmps42
  go_wp2_with fail
  generalize hW1 : (((w.alloc (.cells #[.bool bl, .slice a la ca, .slice b lb cb] 48)).alloc (.cells #[.bool bm, .slice c lc cc, .slice d ld cd] 48)).alloc (.cells #[.bool false, .slice none 0 0, .slice none 0 0] 48)) = w1 at *
  clear hW1
  have hk : w1.cell? ⟨w.heap.size, 0, none⟩ = some (.bool bl) ∧ w1.cell? ⟨w.heap.size, 1, none⟩ = some (.slice a la ca) ∧ w1.cell? ⟨w.heap.size, 2, none⟩ = some (.slice b lb cb) ∧ w1.cell? ⟨w.heap.size + 1, 0, none⟩ = some (.bool bm) ∧ w1.cell? ⟨w.heap.size + 1, 1, none⟩ = some (.slice c lc cc) ∧ w1.cell? ⟨w.heap.size + 1, 2, none⟩ = some (.slice d ld cd) := ⟨K1.c0, K1.c1, K1.c2, K2.c0, K2.c1, K2.c2⟩
  obtain ⟨k0, k1, k2, k3, k4, k5⟩ := id hk
  have U1 := hd (fun w' (hS : w'.cell? ⟨w.heap.size, 0, none⟩ = some (.bool bl) ∧ w'.cell? ⟨w.heap.size, 1, none⟩ = some (.slice a la ca) ∧ w'.cell? ⟨w.heap.size, 2, none⟩ = some (.slice b lb cb) ∧ w'.cell? ⟨w.heap.size + 1, 0, none⟩ = some (.bool bm) ∧ w'.cell? ⟨w.heap.size + 1, 1, none⟩ = some (.slice c lc cc) ∧ w'.cell? ⟨w.heap.size + 1, 2, none⟩ = some (.slice d ld cd)) => (T1.out w').mono (fun e w'' (k : _ ∧ _) => (⟨k, six_old hS k.2⟩ : (_ ∧ _) ∧ (w''.cell? ⟨w.heap.size, 0, none⟩ = some (.bool bl) ∧ w''.cell? ⟨w.heap.size, 1, none⟩ = some (.slice a la ca) ∧ w''.cell? ⟨w.heap.size, 2, none⟩ = some (.slice b lb cb) ∧ w''.cell? ⟨w.heap.size + 1, 0, none⟩ = some (.bool bm) ∧ w''.cell? ⟨w.heap.size + 1, 1, none⟩ = some (.slice c lc cc) ∧ w''.cell? ⟨w.heap.size + 1, 2, none⟩ = some (.slice d ld cd)))))
  have U2 := hd (fun w' (hS : w'.cell? ⟨w.heap.size, 0, none⟩ = some (.bool bl) ∧ w'.cell? ⟨w.heap.size, 1, none⟩ = some (.slice a la ca) ∧ w'.cell? ⟨w.heap.size, 2, none⟩ = some (.slice b lb cb) ∧ w'.cell? ⟨w.heap.size + 1, 0, none⟩ = some (.bool bm) ∧ w'.cell? ⟨w.heap.size + 1, 1, none⟩ = some (.slice c lc cc) ∧ w'.cell? ⟨w.heap.size + 1, 2, none⟩ = some (.slice d ld cd)) (h : Below w1.heap.size w1 w') => (T2.out w' (old_trans e0 h)).mono (fun e w'' (k : _ ∧ _) => (⟨k, six_old hS k.2⟩ : (_ ∧ _) ∧ (w''.cell? ⟨w.heap.size, 0, none⟩ = some (.bool bl) ∧ w''.cell? ⟨w.heap.size, 1, none⟩ = some (.slice a la ca) ∧ w''.cell? ⟨w.heap.size, 2, none⟩ = some (.slice b lb cb) ∧ w''.cell? ⟨w.heap.size + 1, 0, none⟩ = some (.bool bm) ∧ w''.cell? ⟨w.heap.size + 1, 1, none⟩ = some (.slice c lc cc) ∧ w''.cell? ⟨w.heap.size + 1, 2, none⟩ = some (.slice d ld cd)))))
  have ne1 : w.heap.size + 1 + 1 ≠ w.heap.size := by omega
  have ne2 : w.heap.size + 1 + 1 ≠ w.heap.size + 1 := by omega
  clear T1 T2 K1 K2
  go_region_held3 (fun w' => w'.cell? ⟨w.heap.size, 0, none⟩ = some (.bool bl) ∧ w'.cell? ⟨w.heap.size, 1, none⟩ = some (.slice a la ca) ∧ w'.cell? ⟨w.heap.size, 2, none⟩ = some (.slice b lb cb) ∧ w'.cell? ⟨w.heap.size + 1, 0, none⟩ = some (.bool bm) ∧ w'.cell? ⟨w.heap.size + 1, 1, none⟩ = some (.slice c lc cc) ∧ w'.cell? ⟨w.heap.size + 1, 2, none⟩ = some (.slice d ld cd)) (go_keep) (first | (go_at_call 73; refine (U1.out _ (by assumption)).mono ?_; rintro e w4 ⟨⟨rfl, hb4⟩, hc4⟩) | (go_at_call 35; refine (U2.out _ (by assumption) (by repeat (first | exact Below.refl _ _ | refine Below.drew ?_ | refine old_trans ?_ (by assumption)))).mono ?_; rintro e w5 ⟨⟨⟨avT, cvT, avU, cvU, rfl, hT1, hT2⟩, hb5⟩, hc5⟩; have K5 := (K3.drew.old hb4).old hb5; have n2 := K5.c0; have n3 := K5.c1; have n4 := K5.c2; have n5 := K5.f0; have n6 := K5.f1; have n7 := K5.f2))
  all_goals
    have hs0 : w.heap.size + 1 + 1 < w4.heap.size := (K3.drew.old hb4).1
    have o1 := (oi_set3 (v0 := .bool sg) (v1 := .slice avT tl.length cvT) (v2 := .slice avU ul.length cvU) hT1 hs0).mono (show w.heap.size ≤ _ by omega)
    have o2 := (oi_set3 (v0 := .bool sg) (v1 := .slice avT tl.length cvT) (v2 := .slice avU ul.length cvU) hT2 hs0).mono (show w.heap.size ≤ _ by omega)
    have hBF : Below w.heap.size w w5 := old_trans (old_trans e0.drew hb4) hb5
    have hK := K5.setAll (.bool sg) (.slice avT tl.length cvT) (.slice avU ul.length cvU)
    clear hT1 hT2
    go_wp2
    exact bodyPost_ret (resBy hK rfl) rfl ⟨⟨_, _, _, _, rfl, o1, o2⟩, below_set (below_set (below_set hBF (by omega) _) (by omega) _) (by omega) _⟩
theorem resFracDiv {W : World} {b : Nat} {v0 v1 v2 r : Value} {tmps : Array Value} (h : Cel3 W b v0 v1 v2) (ht : tmps[4]? = some (.pointer (some ⟨b, 0, none⟩))) (h3 : tmps[5]? = some r) : (results Tryz.f15 tmps).run Tryz.prog W = .ok (.tuple #[.agg #[v0, v1, v2], r]) W := by
  obtain ⟨h1, ⟨a0, a1, a2⟩, -⟩ := h
  simp [results, Tryz.results15, go_sem, a0, a1, a2, ht, h3]
set_option maxHeartbeats 8000000 in
theorem iFracDiv (bl : Bool) (a b : Option Addr) (la lb ca cb : Nat) (xs ys : List Int) (bm : Bool) (c d : Option Addr) (lc ld cc cd : Nat) (us vs : List Int) (w : World) (hA : InI w a la ca xs) (hB : InI w b lb cb ys) (hC : InI w c lc cc us) (hD : InI w d ld cd vs) (hT : Tab w) (hE : ET w) :
    Calls Tryz.prog 15 #[.agg #[.bool bl, .slice a la ca, .slice b lb cb], .agg #[.bool bm, .slice c lc cc, .slice d ld cd]] w fun e w' => FRes w' w.heap.size e (fracOk bl xs ys && (fracOk bm us vs && lowB (val xs * val vs) (val ys * val us))) (!(bl == bm)) (val xs * val vs) (val ys * val us) ∧ Below w.heap.size w w' := by
  have e0 : Below w.heap.size w (((w.alloc (.cells #[.bool bl, .slice a la ca, .slice b lb cb] 25)).alloc (.cells #[.bool bm, .slice c lc cc, .slice d ld cd] 25)).alloc (.cells #[.bool false, .slice none 0 0, .slice none 0 0] 25)) := (by repeat (first | exact Below.refl _ _ | refine Below.drew ?_ | refine old_alloc ?_ _ | refine old_trans ?_ (by assumption)))
  have K2 := Cel3.new ((w.alloc (.cells #[.bool bl, .slice a la ca, .slice b lb cb] 25)).alloc (.cells #[.bool bm, .slice c lc cc, .slice d ld cd] 25)) (.bool false) (.slice none 0 0) (.slice none 0 0) 25
  simp only [World.size_alloc] at K2
  have O : Hid (Calls Tryz.prog 30 #[.agg #[.bool bl, .slice a la ca, .slice b lb cb], .agg #[.bool bm, .slice c lc cc, .slice d ld cd], .func (.func 42) #[] #[]] (((w.alloc (.cells #[.bool bl, .slice a la ca, .slice b lb cb] 25)).alloc (.cells #[.bool bm, .slice c lc cc, .slice d ld cd] 25)).alloc (.cells #[.bool false, .slice none 0 0, .slice none 0 0] 25)) fun e w' => FRes w' (((w.alloc (.cells #[.bool bl, .slice a la ca, .slice b lb cb] 25)).alloc (.cells #[.bool bm, .slice c lc cc, .slice d ld cd] 25)).alloc (.cells #[.bool false, .slice none 0 0, .slice none 0 0] 25)).heap.size e (fracOk bl xs ys && (fracOk bm us vs && lowB (val xs * val vs) (val ys * val us))) (!(bl == bm)) (val xs * val vs) (val ys * val us) ∧ Below (((w.alloc (.cells #[.bool bl, .slice a la ca, .slice b lb cb] 25)).alloc (.cells #[.bool bm, .slice c lc cc, .slice d ld cd] 25)).alloc (.cells #[.bool false, .slice none 0 0, .slice none 0 0] 25)).heap.size (((w.alloc (.cells #[.bool bl, .slice a la ca, .slice b lb cb] 25)).alloc (.cells #[.bool bm, .slice c lc cc, .slice d ld cd] 25)).alloc (.cells #[.bool false, .slice none 0 0, .slice none 0 0] 25)) w') := by
    show Calls _ _ _ _ _
    cases hf : fracOk bl xs ys && fracOk bm us vs
    · have h := iOfTwo 42 bl a b la lb ca cb xs ys bm c d lc ld cc cd us vs _ (hA.old e0) (hB.old e0) (hC.old e0) (hD.old e0) (hT.old e0) (hE.old e0) (enters_of Tryz.func42 (by kernel_rfl) rfl) false 0 0 (by rw [natL_zero]; simp) (by rw [natL_zero]; simp) (fun h h' => by rw [h, h'] at hf; cases hf)
      have e1 : (fracOk bl xs ys && (fracOk bm us vs && lowB 0 0)) = false := by rw [← Bool.and_assoc, hf]; rfl
      have e2 : (fracOk bl xs ys && (fracOk bm us vs && lowB (val xs * val vs) (val ys * val us))) = false := by rw [← Bool.and_assoc, hf]; rfl
      rw [e1] at h
      rw [e2]
      exact h.mono (fun e w' (k : _ ∧ _) => (⟨FRes.any k.1, k.2⟩ : _ ∧ _))
    · rw [Bool.and_eq_true] at hf
      have q := fracOk_in hf.1
      have r := fracOk_in hf.2
      have q1 := natOk_in q.1
      have q2 := natOk_in q.2.1
      have r1 := natOk_in r.1
      have r2 := natOk_in r.2.1
      have pA := hA.1
      have pB := hB.1
      have pC := hC.1
      have pD := hD.1
      exact iOfTwo 42 bl a b la lb ca cb xs ys bm c d lc ld cc cd us vs _ (hA.old e0) (hB.old e0) (hC.old e0) (hD.old e0) (hT.old e0) (hE.old e0) (enters_of Tryz.func42 (by kernel_rfl) rfl) (!(bl == bm)) (val xs * val vs) (val ys * val us) (Nat.le_trans (mul_len4 q.1 r.2.1) (by omega)) (Nat.le_trans (mul_len4 q.2.1 r.1) (by omega)) (fun _ _ W hW => iBy bl a b la lb ca cb xs ys bm c d lc ld cc cd us vs W ((hA.old e0).old hW) ((hB.old e0).old hW) ((hC.old e0).old hW) ((hD.old e0).old hW) q1.2.1 q2.2.1 r1.2.1 r2.2.1 (by omega) (by omega) (by omega) (by omega))
  clear hA hB hC hD hT hE
  generalize (fracOk bl xs ys && (fracOk bm us vs && lowB (val xs * val vs) (val ys * val us))) = okk at *
  go_enter Tryz.func15, Tryz.ntmps15
  go_wp2_with fail
  refine O.out.mono ?_
  rintro e w1 ⟨⟨av, cv, av', cv', rfl, hO, hO', hS⟩, hb1⟩
  have hs0 := K2.1
  replace K2 := K2.old hb1
  have hB1 := old_trans e0 hb1
  obtain ⟨m1, ⟨m2, m3, m4⟩, m5, m6, m7⟩ := id K2
  have hfin := hd (FRes.put (w' := w1) (s := !(bl == bm)) (base := w.heap.size) hO hO' hS e0.size hs0)
  have hK := K2.setAll (.bool (fS okk (!(bl == bm)) (val xs * val vs))) (.slice av (fT okk (val xs * val vs) (val ys * val us)).length cv) (.slice av' (fU okk (val xs * val vs) (val ys * val us)).length cv')
  have hBF := below_set (below_set (below_set hB1 (show w.heap.size ≤ w.heap.size + 1 + 1 by omega) (i := 0) (.bool (fS okk (!(bl == bm)) (val xs * val vs)))) (show w.heap.size ≤ w.heap.size + 1 + 1 by omega) (i := 1) (.slice av (fT okk (val xs * val vs) (val ys * val us)).length cv)) (show w.heap.size ≤ w.heap.size + 1 + 1 by omega) (i := 2) (.slice av' (fU okk (val xs * val vs) (val ys * val us)).length cv')
  clear hO hO' hS hb1 O e0 hs0
  generalize hsg : fS okk (!(bl == bm)) (val xs * val vs) = sg at *
  go_wp2
  exact bodyPost_ret (resFracDiv hK rfl rfl) rfl ⟨hfin.out, hBF⟩
end Go.Proofs.YtekhokemekaeoaaGreatDoor
