/- Products of fractions: by the program and by the specification. Conditions, of the program: the library's table and its handle of errors hold what their texts lay. -/
import Derived.Test.YtbcdeddbkckaeaaGreatDoorFP
import Derived.Deep.DeepCutAuto
namespace Go.Proofs.YtbcdeddbkckaeaaGreatDoor
open Go.RowKit
set_option linter.unusedVariables false
set_option maxRecDepth 100000

theorem Cel3.lts {w : World} {b : Nat} {v0 v1 v2 : Value} (h : Cel3 w b v0 v1 v2) : b < w.heap.size := h.1
theorem newN {R W W' : World} (h : Below R.heap.size R W) (hb : Below (W.alloc (.cells #[.bool false, .slice none 0 0, .slice none 0 0] 26)).heap.size (W.alloc (.cells #[.bool false, .slice none 0 0, .slice none 0 0] 26)) W') : Cel3 W' W.heap.size (.bool false) (.slice none 0 0) (.slice none 0 0) ∧ R.heap.size ≤ W.heap.size ∧ W.heap.size < (W.alloc (.cells #[.bool false, .slice none 0 0, .slice none 0 0] 26)).heap.size := ⟨(Cel3.new W _ _ _ _).old hb, h.size, by simp⟩
theorem newN' {R W W' : World} (h : Below R.heap.size R W) (hb : Below (W.alloc (.cells #[.bool false, .slice none 0 0, .slice none 0 0] 26)).drew.heap.size (W.alloc (.cells #[.bool false, .slice none 0 0, .slice none 0 0] 26)).drew W') : Cel3 W' W.heap.size (.bool false) (.slice none 0 0) (.slice none 0 0) ∧ R.heap.size ≤ W.heap.size ∧ W.heap.size < (W.alloc (.cells #[.bool false, .slice none 0 0, .slice none 0 0] 26)).drew.heap.size := ⟨(Cel3.new W _ _ _ _).drew.old hb, h.size, by show W.heap.size < (W.alloc _).heap.size; simp⟩
theorem ok2_low {a b c : Bool} (h : (a && (b && c)) = true) : c = true := by
  simp only [Bool.and_eq_true] at h
  exact h.2.2
theorem mul_lenG {a b n m : Nat} (h1 : a < 65536 ^ n) (h2 : b < 65536 ^ m) : (natL (a * b)).length ≤ n + m := by
  refine natL_len.2 ?_
  rw [Nat.pow_add]
  exact Nat.mul_lt_mul'' h1 h2
theorem mul_len4 {xs ys : List Int} (h1 : natOk xs = true) (h2 : natOk ys = true) : (natL (val xs * val ys)).length ≤ 512 := mul_lenG (natOk_lt h1) (natOk_lt h2)
theorem resFracMul {W : World} {b : Nat} {v0 v1 v2 r : Value} {tmps : Array Value} (h : Cel3 W b v0 v1 v2) (ht : tmps[4]? = some (.pointer (some ⟨b, 0, none⟩))) (h3 : tmps[5]? = some r) : (results Tryz.f13 tmps).run Tryz.prog W = .ok (.tuple #[.agg #[v0, v1, v2], r]) W := by
  obtain ⟨h1, ⟨a0, a1, a2⟩, -⟩ := h
  simp [results, Tryz.results13, go_sem, a0, a1, a2, ht, h3]
set_option maxHeartbeats 8000000 in
theorem iFracMul (bl : Bool) (a b : Option Addr) (la lb ca cb : Nat) (xs ys : List Int) (bm : Bool) (c d : Option Addr) (lc ld cc cd : Nat) (us vs : List Int) (w : World) (hA : InI w a la ca xs) (hB : InI w b lb cb ys) (hC : InI w c lc cc us) (hD : InI w d ld cd vs) (hT : Tab w) (hE : ET w) :
    Calls Tryz.prog 13 #[.agg #[.bool bl, .slice a la ca, .slice b lb cb], .agg #[.bool bm, .slice c lc cc, .slice d ld cd]] w fun e w' => FRes w' w.heap.size e (fracOk bl xs ys && (fracOk bm us vs && lowB (val xs * val us) (val ys * val vs))) (!(bl == bm)) (val xs * val us) (val ys * val vs) ∧ Below w.heap.size w w' := by
  have e0 : Below w.heap.size w (((w.alloc (.cells #[.bool bl, .slice a la ca, .slice b lb cb] 26)).alloc (.cells #[.bool bm, .slice c lc cc, .slice d ld cd] 26)).alloc (.cells #[.bool false, .slice none 0 0, .slice none 0 0] 26)) := (by repeat (first | exact Below.refl _ _ | refine Below.drew ?_ | refine old_alloc ?_ _ | refine old_trans ?_ (by assumption)))
  have K2 := Cel3.new ((w.alloc (.cells #[.bool bl, .slice a la ca, .slice b lb cb] 26)).alloc (.cells #[.bool bm, .slice c lc cc, .slice d ld cd] 26)) (.bool false) (.slice none 0 0) (.slice none 0 0) 26
  simp only [World.size_alloc] at K2
  have O : Hid (Calls Tryz.prog 35 #[.agg #[.bool bl, .slice a la ca, .slice b lb cb], .agg #[.bool bm, .slice c lc cc, .slice d ld cd], .func (.func 36) #[] #[]] (((w.alloc (.cells #[.bool bl, .slice a la ca, .slice b lb cb] 26)).alloc (.cells #[.bool bm, .slice c lc cc, .slice d ld cd] 26)).alloc (.cells #[.bool false, .slice none 0 0, .slice none 0 0] 26)) fun e w' => FRes w' (((w.alloc (.cells #[.bool bl, .slice a la ca, .slice b lb cb] 26)).alloc (.cells #[.bool bm, .slice c lc cc, .slice d ld cd] 26)).alloc (.cells #[.bool false, .slice none 0 0, .slice none 0 0] 26)).heap.size e (fracOk bl xs ys && (fracOk bm us vs && lowB (val xs * val us) (val ys * val vs))) (!(bl == bm)) (val xs * val us) (val ys * val vs) ∧ Below (((w.alloc (.cells #[.bool bl, .slice a la ca, .slice b lb cb] 26)).alloc (.cells #[.bool bm, .slice c lc cc, .slice d ld cd] 26)).alloc (.cells #[.bool false, .slice none 0 0, .slice none 0 0] 26)).heap.size (((w.alloc (.cells #[.bool bl, .slice a la ca, .slice b lb cb] 26)).alloc (.cells #[.bool bm, .slice c lc cc, .slice d ld cd] 26)).alloc (.cells #[.bool false, .slice none 0 0, .slice none 0 0] 26)) w') := by
    show Calls _ _ _ _ _
    cases hf : fracOk bl xs ys && fracOk bm us vs
    · have h := iOfTwo 36 bl a b la lb ca cb xs ys bm c d lc ld cc cd us vs _ (hA.old e0) (hB.old e0) (hC.old e0) (hD.old e0) (hT.old e0) (hE.old e0) (enters_of Tryz.func36 (by kernel_rfl) rfl) false 0 0 (by rw [natL_zero]; simp) (by rw [natL_zero]; simp) (fun h h' => by rw [h, h'] at hf; cases hf)
      have e1 : (fracOk bl xs ys && (fracOk bm us vs && lowB 0 0)) = false := by rw [← Bool.and_assoc, hf]; rfl
      have e2 : (fracOk bl xs ys && (fracOk bm us vs && lowB (val xs * val us) (val ys * val vs))) = false := by rw [← Bool.and_assoc, hf]; rfl
      rw [e1] at h
      rw [e2]
      exact h.mono (fun e w' (k : _ ∧ _) => (⟨FRes.any k.1, k.2⟩ : _ ∧ _))
    · rw [Bool.and_eq_true] at hf
      have q := fracOk_in hf.1
      have r := fracOk_in hf.2
      have q1 := natOk_in q.1
      have q2 := natOk_in q.2.1
      have r1 := natOk_in r.1
      have r2 := natOk_in r.2.1
      have pA := hA.1
      have pB := hB.1
      have pC := hC.1
      have pD := hD.1
      exact iOfTwo 36 bl a b la lb ca cb xs ys bm c d lc ld cc cd us vs _ (hA.old e0) (hB.old e0) (hC.old e0) (hD.old e0) (hT.old e0) (hE.old e0) (enters_of Tryz.func36 (by kernel_rfl) rfl) (!(bl == bm)) (val xs * val us) (val ys * val vs) (Nat.le_trans (mul_len4 q.1 r.1) (by omega)) (Nat.le_trans (mul_len4 q.2.1 r.2.1) (by omega)) (fun _ _ W hW => iTimesR bl a b la lb ca cb xs ys bm c d lc ld cc cd us vs W ((hA.old e0).old hW) ((hB.old e0).old hW) ((hC.old e0).old hW) ((hD.old e0).old hW) q1.2.1 q2.2.1 r1.2.1 r2.2.1 (by omega) (by omega) (by omega) (by omega))
  clear hA hB hC hD hT hE
  generalize (fracOk bl xs ys && (fracOk bm us vs && lowB (val xs * val us) (val ys * val vs))) = okk at *
  go_enter Tryz.func13, Tryz.ntmps13
  go_wp2_with fail
  refine O.out.mono ?_
  rintro e w1 ⟨⟨av, cv, av', cv', rfl, hO, hO', hS⟩, hb1⟩
  have hs0 := K2.1
  replace K2 := K2.old hb1
  have hB1 := old_trans e0 hb1
  obtain ⟨m1, ⟨m2, m3, m4⟩, m5, m6, m7⟩ := id K2
  have hfin := hd (FRes.put (w' := w1) (s := !(bl == bm)) (base := w.heap.size) hO hO' hS e0.size hs0)
  have hK := K2.setAll (.bool (fS okk (!(bl == bm)) (val xs * val us))) (.slice av (fT okk (val xs * val us) (val ys * val vs)).length cv) (.slice av' (fU okk (val xs * val us) (val ys * val vs)).length cv')
  have hBF := below_set (below_set (below_set hB1 (show w.heap.size ≤ w.heap.size + 1 + 1 by omega) (i := 0) (.bool (fS okk (!(bl == bm)) (val xs * val us)))) (show w.heap.size ≤ w.heap.size + 1 + 1 by omega) (i := 1) (.slice av (fT okk (val xs * val us) (val ys * val vs)).length cv)) (show w.heap.size ≤ w.heap.size + 1 + 1 by omega) (i := 2) (.slice av' (fU okk (val xs * val us) (val ys * val vs)).length cv')
  clear hO hO' hS hb1 O e0 hs0
  generalize hsg : fS okk (!(bl == bm)) (val xs * val us) = sg at *
  go_wp2
  exact bodyPost_ret (resFracMul hK rfl rfl) rfl ⟨hfin.out, hBF⟩
theorem resFracMulS {W : World} {b : Nat} {v0 v1 v2 r : Value} {tmps : Array Value} (h : Cel3 W b v0 v1 v2) (ht : tmps[4]? = some (.pointer (some ⟨b, 0, none⟩))) (h3 : tmps[5]? = some r) : (results Tryz.f34 tmps).run Tryz.prog W = .ok (.tuple #[.agg #[v0, v1, v2], r]) W := by
  obtain ⟨h1, ⟨a0, a1, a2⟩, -⟩ := h
  simp [results, Tryz.results34, go_sem, a0, a1, a2, ht, h3]
set_option maxHeartbeats 8000000 in
theorem sFracMul (bl : Bool) (a b : Option Addr) (la lb ca cb : Nat) (xs ys : List Int) (bm : Bool) (c d : Option Addr) (lc ld cc cd : Nat) (us vs : List Int) (w : World) (hA : InI w a la ca xs) (hB : InI w b lb cb ys) (hC : InI w c lc cc us) (hD : InI w d ld cd vs) :
    Calls Tryz.prog 34 #[.agg #[.bool bl, .slice a la ca, .slice b lb cb], .agg #[.bool bm, .slice c lc cc, .slice d ld cd]] w fun e w' => FRes w' w.heap.size e (fracOk bl xs ys && (fracOk bm us vs && lowB (val xs * val us) (val ys * val vs))) (!(bl == bm)) (val xs * val us) (val ys * val vs) ∧ Below w.heap.size w w' := by
  have e0 : Below w.heap.size w (((w.alloc (.cells #[.bool bl, .slice a la ca, .slice b lb cb] 26)).alloc (.cells #[.bool bm, .slice c lc cc, .slice d ld cd] 26)).alloc (.cells #[.bool false, .slice none 0 0, .slice none 0 0] 26)) := (by repeat (first | exact Below.refl _ _ | refine Below.drew ?_ | refine old_alloc ?_ _ | refine old_trans ?_ (by assumption)))
  have K1 := ((Cel3.new w (.bool bl) (.slice a la ca) (.slice b lb cb) 26).old (old_alloc (Below.refl _ _) (.cells #[.bool bm, .slice c lc cc, .slice d ld cd] 26))).old (old_alloc (Below.refl _ _) (.cells #[.bool false, .slice none 0 0, .slice none 0 0] 26))
  have K2 := (Cel3.new (w.alloc (.cells #[.bool bl, .slice a la ca, .slice b lb cb] 26)) (.bool bm) (.slice c lc cc) (.slice d ld cd) 26).old (old_alloc (Below.refl _ _) (.cells #[.bool false, .slice none 0 0, .slice none 0 0] 26))
  have K3 := Cel3.new ((w.alloc (.cells #[.bool bl, .slice a la ca, .slice b lb cb] 26)).alloc (.cells #[.bool bm, .slice c lc cc, .slice d ld cd] 26)) (.bool false) (.slice none 0 0) (.slice none 0 0) 26
  simp only [World.size_alloc] at K2 K3
  have O1 := hd (sFracOk bl a b la lb ca cb xs ys _ (hA.old e0) (hB.old e0))
  have O2 := hd (fun w' (h : Below w.heap.size w w') => sFracOk bm c d lc ld cc cd us vs w' (hC.old h) (hD.old h))
  cases hf : fracOk bl xs ys
  · rw [hf] at O1
    show Calls _ _ _ _ fun e w' => FRes w' w.heap.size e false (!(bl == bm)) (val xs * val us) (val ys * val vs) ∧ Below w.heap.size w w'
    clear hf O2
    go_enter Tryz.func34, Tryz.ntmps34
    go_wp2_with fail
    refine O1.out.mono ?_
    rintro e w1 ⟨rfl, hb1⟩
    replace K3 := K3.old hb1
    have hB1 := old_trans e0 hb1
    obtain ⟨m1, ⟨m2, m3, m4⟩, m5, m6, m7⟩ := id K3
    go_wp2
    exact bodyPost_ret (resFracMulS (K3.setAll (.bool false) (.slice none 0 0) (.slice none 0 0)) rfl rfl) rfl ⟨FRes.no _ _ _ _ _, below_set (below_set (below_set hB1 (by omega) _) (by omega) _) (by omega) _⟩
  rw [hf] at O1
  cases hg : fracOk bm us vs
  · rw [hg] at O2
    show Calls _ _ _ _ fun e w' => FRes w' w.heap.size e false (!(bl == bm)) (val xs * val us) (val ys * val vs) ∧ Below w.heap.size w w'
    clear hf hg
    go_enter Tryz.func34, Tryz.ntmps34
    go_wp2_with fail
    refine O1.out.mono ?_
    rintro e w1 ⟨rfl, hb1⟩
    replace K2 := K2.old hb1
    replace K3 := K3.old hb1
    have hB1 := old_trans e0 hb1
    obtain ⟨k1, ⟨k2, k3, k4⟩, -⟩ := id K2
    go_wp2_with fail
    refine (O2.out _ hB1).mono ?_
    rintro e w2 ⟨rfl, hb2⟩
    replace K3 := K3.old hb2
    have hB2 := old_trans hB1 hb2
    obtain ⟨m1, ⟨m2, m3, m4⟩, m5, m6, m7⟩ := id K3
    go_wp2
    exact bodyPost_ret (resFracMulS (K3.setAll (.bool false) (.slice none 0 0) (.slice none 0 0)) rfl rfl) rfl ⟨FRes.no _ _ _ _ _, below_set (below_set (below_set hB2 (by omega) _) (by omega) _) (by omega) _⟩
  rw [hg] at O2
  have q := fracOk_in hf
  have r := fracOk_in hg
  have q1 := natOk_in q.1
  have q2 := natOk_in q.2.1
  have r1 := natOk_in r.1
  have r2 := natOk_in r.2.1
  have pA := hA.1
  have pB := hB.1
  have pC := hC.1
  have pD := hD.1
  have lT := mul_len4 q.1 r.1
  have lU := mul_len4 q.2.1 r.2.1
  have hnz : val ys * val vs ≠ 0 := Nat.mul_ne_zero (lowB_in (fracOk_low hf).1).1 (lowB_in (fracOk_low hg).1).1
  show Calls _ _ _ _ fun e w' => FRes w' w.heap.size e (lowB (val xs * val us) (val ys * val vs)) (!(bl == bm)) (val xs * val us) (val ys * val vs) ∧ Below w.heap.size w w'
  have T1 := hd (fun w' (h : Below w.heap.size w w') => sMul a c la lc ca cc xs us w' (hA.old h) (hC.old h) q1.2.1 r1.2.1 (by omega) (by omega))
  have T2 := hd (fun w' (h : Below w.heap.size w w') => sMul b d lb ld cb cd ys vs w' (hB.old h) (hD.old h) q2.2.1 r2.2.1 (by omega) (by omega))
  clear hA hB hC hD q r q1 q2 r1 r2 pA pB pC pD hf hg
  generalize val xs * val us = A at *
  generalize val ys * val vs = B at *
  have MK := hd (fun av av' cv cv' w' (h1 : InI w' av (natL A).length cv (natL A)) (h2 : InI w' av' (natL B).length cv' (natL B)) => sL6Make (!(bl == bm)) av av' cv cv' A B w' h1 h2 (by omega) (by omega) hnz)
  clear lT lU hnz
  generalize lowB A B = okk at *
  go_enter Tryz.func34, Tryz.ntmps34
  go_wp2_with fail
  refine O1.out.mono ?_
  rintro e w1 ⟨rfl, hb1⟩
  replace K1 := K1.old hb1
  replace K2 := K2.old hb1
  replace K3 := K3.old hb1
  have hB1 := old_trans e0 hb1
  obtain ⟨k1, ⟨k2, k3, k4⟩, -⟩ := id K2
  clear hb1 e0
  go_wp2_with fail
  refine (O2.out _ hB1).mono ?_
  rintro e w2 ⟨rfl, hb2⟩
  replace K1 := K1.old hb2
  replace K2 := K2.old hb2
  replace K3 := K3.old hb2
  have hB2 := old_trans hB1 hb2
  clear hb2 hB1 k1 k2 k3 k4 O1 O2
  have hk : w2.cell? ⟨w.heap.size, 0, none⟩ = some (.bool bl) ∧ w2.cell? ⟨w.heap.size, 1, none⟩ = some (.slice a la ca) ∧ w2.cell? ⟨w.heap.size, 2, none⟩ = some (.slice b lb cb) ∧ w2.cell? ⟨w.heap.size + 1, 0, none⟩ = some (.bool bm) ∧ w2.cell? ⟨w.heap.size + 1, 1, none⟩ = some (.slice c lc cc) ∧ w2.cell? ⟨w.heap.size + 1, 2, none⟩ = some (.slice d ld cd) := ⟨K1.c0, K1.c1, K1.c2, K2.c0, K2.c1, K2.c2⟩
  obtain ⟨k0, k1, k2, k3, k4, k5⟩ := id hk
  have U1 := hd (fun w' (hS : w'.cell? ⟨w.heap.size, 0, none⟩ = some (.bool bl) ∧ w'.cell? ⟨w.heap.size, 1, none⟩ = some (.slice a la ca) ∧ w'.cell? ⟨w.heap.size, 2, none⟩ = some (.slice b lb cb) ∧ w'.cell? ⟨w.heap.size + 1, 0, none⟩ = some (.bool bm) ∧ w'.cell? ⟨w.heap.size + 1, 1, none⟩ = some (.slice c lc cc) ∧ w'.cell? ⟨w.heap.size + 1, 2, none⟩ = some (.slice d ld cd)) (h : Below w2.heap.size w2 w') => (T1.out w' (old_trans hB2 h)).mono (fun e w'' (k : _ ∧ _) => (⟨k, six_old hS k.2⟩ : (_ ∧ _) ∧ (w''.cell? ⟨w.heap.size, 0, none⟩ = some (.bool bl) ∧ w''.cell? ⟨w.heap.size, 1, none⟩ = some (.slice a la ca) ∧ w''.cell? ⟨w.heap.size, 2, none⟩ = some (.slice b lb cb) ∧ w''.cell? ⟨w.heap.size + 1, 0, none⟩ = some (.bool bm) ∧ w''.cell? ⟨w.heap.size + 1, 1, none⟩ = some (.slice c lc cc) ∧ w''.cell? ⟨w.heap.size + 1, 2, none⟩ = some (.slice d ld cd)))))
  have U2 := hd (fun w' (hS : w'.cell? ⟨w.heap.size, 0, none⟩ = some (.bool bl) ∧ w'.cell? ⟨w.heap.size, 1, none⟩ = some (.slice a la ca) ∧ w'.cell? ⟨w.heap.size, 2, none⟩ = some (.slice b lb cb) ∧ w'.cell? ⟨w.heap.size + 1, 0, none⟩ = some (.bool bm) ∧ w'.cell? ⟨w.heap.size + 1, 1, none⟩ = some (.slice c lc cc) ∧ w'.cell? ⟨w.heap.size + 1, 2, none⟩ = some (.slice d ld cd)) (h : Below w2.heap.size w2 w') => (T2.out w' (old_trans hB2 h)).mono (fun e w'' (k : _ ∧ _) => (⟨k, six_old hS k.2⟩ : (_ ∧ _) ∧ (w''.cell? ⟨w.heap.size, 0, none⟩ = some (.bool bl) ∧ w''.cell? ⟨w.heap.size, 1, none⟩ = some (.slice a la ca) ∧ w''.cell? ⟨w.heap.size, 2, none⟩ = some (.slice b lb cb) ∧ w''.cell? ⟨w.heap.size + 1, 0, none⟩ = some (.bool bm) ∧ w''.cell? ⟨w.heap.size + 1, 1, none⟩ = some (.slice c lc cc) ∧ w''.cell? ⟨w.heap.size + 1, 2, none⟩ = some (.slice d ld cd)))))
  have U3 := hd (fun av av' cv cv' w' (hS : w'.cell? ⟨w.heap.size, 0, none⟩ = some (.bool bl) ∧ w'.cell? ⟨w.heap.size, 1, none⟩ = some (.slice a la ca) ∧ w'.cell? ⟨w.heap.size, 2, none⟩ = some (.slice b lb cb) ∧ w'.cell? ⟨w.heap.size + 1, 0, none⟩ = some (.bool bm) ∧ w'.cell? ⟨w.heap.size + 1, 1, none⟩ = some (.slice c lc cc) ∧ w'.cell? ⟨w.heap.size + 1, 2, none⟩ = some (.slice d ld cd)) (h1 : InI w' av (natL A).length cv (natL A)) (h2 : InI w' av' (natL B).length cv' (natL B)) => (MK.out av av' cv cv' w' h1 h2).mono (fun e w'' (k : _ ∧ _) => (⟨k, six_old hS k.2⟩ : (_ ∧ _) ∧ (w''.cell? ⟨w.heap.size, 0, none⟩ = some (.bool bl) ∧ w''.cell? ⟨w.heap.size, 1, none⟩ = some (.slice a la ca) ∧ w''.cell? ⟨w.heap.size, 2, none⟩ = some (.slice b lb cb) ∧ w''.cell? ⟨w.heap.size + 1, 0, none⟩ = some (.bool bm) ∧ w''.cell? ⟨w.heap.size + 1, 1, none⟩ = some (.slice c lc cc) ∧ w''.cell? ⟨w.heap.size + 1, 2, none⟩ = some (.slice d ld cd)))))
  have ne1 : w.heap.size + 1 + 1 ≠ w.heap.size := by omega
  have ne2 : w.heap.size + 1 + 1 ≠ w.heap.size + 1 := by omega
  clear T1 T2 K1 K2 MK
  go_wp2_with fail
  go_region_held3 (fun w' => w'.cell? ⟨w.heap.size, 0, none⟩ = some (.bool bl) ∧ w'.cell? ⟨w.heap.size, 1, none⟩ = some (.slice a la ca) ∧ w'.cell? ⟨w.heap.size, 2, none⟩ = some (.slice b lb cb) ∧ w'.cell? ⟨w.heap.size + 1, 0, none⟩ = some (.bool bm) ∧ w'.cell? ⟨w.heap.size + 1, 1, none⟩ = some (.slice c lc cc) ∧ w'.cell? ⟨w.heap.size + 1, 2, none⟩ = some (.slice d ld cd)) (go_keep) (first | (go_at_call 52; with_reducible refine (U1.out _ (by assumption) (by repeat (first | exact Below.refl _ _ | refine Below.drew ?_ | refine old_trans ?_ (by assumption)))).mono ?_; rintro e w4 ⟨⟨⟨avT, cvT, rfl, hT1⟩, hb4⟩, hc4⟩) | (go_at_call 52; with_reducible refine (U2.out _ (by assumption) (by repeat (first | exact Below.refl _ _ | refine Below.drew ?_ | refine old_trans ?_ (by assumption)))).mono ?_; rintro e w5 ⟨⟨⟨avU, cvU, rfl, hT2⟩, hb5⟩, hc5⟩) | (go_at_call 58; refine (U3.out _ _ _ _ _ (by assumption) (hT1.later hb5).inI hT2.inI).mono ?_; rintro e w6 ⟨⟨⟨av, cv, av', cv', rfl, hO, hO', hS⟩, hb6⟩, hc6⟩; have K5 := ((K3.drew.old hb4).old hb5).old hb6; have n2 := K5.c0; have n3 := K5.c1; have n4 := K5.c2; have n5 := K5.f0; have n6 := K5.f1; have n7 := K5.f2))
  all_goals
    have hs0 : w.heap.size + 1 + 1 < w5.heap.size := ((K3.drew.old hb4).old hb5).1
    have hBF : Below w.heap.size w w6 := old_trans (old_trans (old_trans hB2.drew hb4) hb5) hb6
    have hbs : w.heap.size ≤ w5.heap.size := by omega
    have hfin := hd (FRes.put (w' := w6) (s := !(bl == bm)) (base := w.heap.size) hO hO' hS hbs hs0)
    have hK := K5.setAll (.bool (fS okk (!(bl == bm)) A)) (.slice av (fT okk A B).length cv) (.slice av' (fU okk A B).length cv')
    have hBG := below_set (below_set (below_set hBF (show w.heap.size ≤ w.heap.size + 1 + 1 by omega) (i := 0) (.bool (fS okk (!(bl == bm)) A))) (show w.heap.size ≤ w.heap.size + 1 + 1 by omega) (i := 1) (.slice av (fT okk A B).length cv)) (show w.heap.size ≤ w.heap.size + 1 + 1 by omega) (i := 2) (.slice av' (fU okk A B).length cv')
    clear hT1 hT2 hO hO'
    generalize fS okk (!(bl == bm)) A = sg at *
    go_wp2
    exact bodyPost_ret (resFracMulS hK rfl rfl) rfl ⟨hfin.out, hBG⟩
end Go.Proofs.YtbcdeddbkckaeaaGreatDoor
