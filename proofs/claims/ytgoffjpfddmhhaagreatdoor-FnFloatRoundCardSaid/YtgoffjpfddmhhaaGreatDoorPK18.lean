/- Products of fractions: by the program and by the specification. Conditions, of the program: the library's table and its handle of errors hold what their texts lay. -/
import Derived.Test.YtgoffjpfddmhhaaGreatDoorPK17
import Derived.Deep.DeepCutAuto
import Derived.LoopN
namespace Go.Proofs.YtgoffjpfddmhhaaGreatDoor
open Go.RowKit
set_option linter.unusedVariables false
set_option maxRecDepth 100000

theorem mul_lenG {a b n m : Nat} (h1 : a < 65536 ^ n) (h2 : b < 65536 ^ m) : (natL (a * b)).length ≤ n + m := by
  refine natL_len.2 ?_
  rw [Nat.pow_add]
  exact Nat.mul_lt_mul'' h1 h2
theorem mul_len4 {xs ys : List Int} (h1 : natOk xs = true) (h2 : natOk ys = true) : (natL (val xs * val ys)).length ≤ 512 := mul_lenG (natOk_lt h1) (natOk_lt h2)
theorem resFracMulS {W : World} {b : Nat} {v0 v1 v2 r : Value} {tmps : Array Value} (h : Cel3 W b v0 v1 v2) (ht : tmps[4]? = some (.pointer (some ⟨b, 0, none⟩))) (h3 : tmps[5]? = some r) : (results Tryz.f29 tmps).run Tryz.prog W = .ok (.tuple #[.agg #[v0, v1, v2], r]) W := by
  obtain ⟨h1, ⟨a0, a1, a2⟩, -⟩ := h
  simp [results, Tryz.results29, go_sem, a0, a1, a2, ht, h3]
set_option maxHeartbeats 8000000 in
theorem sFracMul (bl : Bool) (a b : Option Addr) (la lb ca cb : Nat) (xs ys : List Int) (bm : Bool) (c d : Option Addr) (lc ld cc cd : Nat) (us vs : List Int) (w : World) (hA : InI w a la ca xs) (hB : InI w b lb cb ys) (hC : InI w c lc cc us) (hD : InI w d ld cd vs) :
    Calls Tryz.prog 29 #[.agg #[.bool bl, .slice a la ca, .slice b lb cb], .agg #[.bool bm, .slice c lc cc, .slice d ld cd]] w fun e w' => FRes w' w.heap.size e (fracOk bl xs ys && (fracOk bm us vs && lowB (val xs * val us) (val ys * val vs))) (!(bl == bm)) (val xs * val us) (val ys * val vs) ∧ Below w.heap.size w w' := by
  have e0 : Below w.heap.size w (((w.alloc (.cells #[.bool bl, .slice a la ca, .slice b lb cb] 25)).alloc (.cells #[.bool bm, .slice c lc cc, .slice d ld cd] 25)).alloc (.cells #[.bool false, .slice none 0 0, .slice none 0 0] 25)) := (by repeat (first | exact Below.refl _ _ | refine Below.drew ?_ | refine old_alloc ?_ _ | refine old_trans ?_ (by assumption)))
  have K1 := ((Cel3.new w (.bool bl) (.slice a la ca) (.slice b lb cb) 25).old (old_alloc (Below.refl _ _) (.cells #[.bool bm, .slice c lc cc, .slice d ld cd] 25))).old (old_alloc (Below.refl _ _) (.cells #[.bool false, .slice none 0 0, .slice none 0 0] 25))
  have K2 := (Cel3.new (w.alloc (.cells #[.bool bl, .slice a la ca, .slice b lb cb] 25)) (.bool bm) (.slice c lc cc) (.slice d ld cd) 25).old (old_alloc (Below.refl _ _) (.cells #[.bool false, .slice none 0 0, .slice none 0 0] 25))
  have K3 := Cel3.new ((w.alloc (.cells #[.bool bl, .slice a la ca, .slice b lb cb] 25)).alloc (.cells #[.bool bm, .slice c lc cc, .slice d ld cd] 25)) (.bool false) (.slice none 0 0) (.slice none 0 0) 25
  simp only [World.size_alloc] at K2 K3
  have O1 := hd (sFracOk bl a b la lb ca cb xs ys _ (hA.old e0) (hB.old e0))
  have O2 := hd (fun w' (h : Below w.heap.size w w') => sFracOk bm c d lc ld cc cd us vs w' (hC.old h) (hD.old h))
  cases hf : fracOk bl xs ys
  · rw [hf] at O1
    show Calls _ _ _ _ fun e w' => FRes w' w.heap.size e false (!(bl == bm)) (val xs * val us) (val ys * val vs) ∧ Below w.heap.size w w'
    clear hf O2
    go_enter Tryz.func29, Tryz.ntmps29
    go_wp2_with fail
    refine O1.out.mono ?_
    rintro e w1 ⟨rfl, hb1⟩
    replace K3 := K3.old hb1
    have hB1 := old_trans e0 hb1
    obtain ⟨m1, ⟨m2, m3, m4⟩, m5, m6, m7⟩ := id K3
    go_wp2
    exact bodyPost_ret (resFracMulS (K3.setAll (.bool false) (.slice none 0 0) (.slice none 0 0)) rfl rfl) rfl ⟨FRes.no _ _ _ _ _, below_set (below_set (below_set hB1 (by omega) _) (by omega) _) (by omega) _⟩
  rw [hf] at O1
  cases hg : fracOk bm us vs
  · rw [hg] at O2
    show Calls _ _ _ _ fun e w' => FRes w' w.heap.size e false (!(bl == bm)) (val xs * val us) (val ys * val vs) ∧ Below w.heap.size w w'
    clear hf hg
    go_enter Tryz.func29, Tryz.ntmps29
    go_wp2_with fail
    refine O1.out.mono ?_
    rintro e w1 ⟨rfl, hb1⟩
    replace K2 := K2.old hb1
    replace K3 := K3.old hb1
    have hB1 := old_trans e0 hb1
    obtain ⟨k1, ⟨k2, k3, k4⟩, -⟩ := id K2
    go_wp2_with fail
    refine (O2.out _ hB1).mono ?_
    rintro e w2 ⟨rfl, hb2⟩
    replace K3 := K3.old hb2
    have hB2 := old_trans hB1 hb2
    obtain ⟨m1, ⟨m2, m3, m4⟩, m5, m6, m7⟩ := id K3
    go_wp2
    exact bodyPost_ret (resFracMulS (K3.setAll (.bool false) (.slice none 0 0) (.slice none 0 0)) rfl rfl) rfl ⟨FRes.no _ _ _ _ _, below_set (below_set (below_set hB2 (by omega) _) (by omega) _) (by omega) _⟩
  rw [hg] at O2
  have q := fracOk_in hf
  have r := fracOk_in hg
  have q1 := natOk_in q.1
  have q2 := natOk_in q.2.1
  have r1 := natOk_in r.1
  have r2 := natOk_in r.2.1
  have pA := hA.1
  have pB := hB.1
  have pC := hC.1
  have pD := hD.1
  have lT := mul_len4 q.1 r.1
  have lU := mul_len4 q.2.1 r.2.1
  have hnz : val ys * val vs ≠ 0 := Nat.mul_ne_zero (lowB_in (fracOk_low hf).1).1 (lowB_in (fracOk_low hg).1).1
  show Calls _ _ _ _ fun e w' => FRes w' w.heap.size e (lowB (val xs * val us) (val ys * val vs)) (!(bl == bm)) (val xs * val us) (val ys * val vs) ∧ Below w.heap.size w w'
  have T1 := hd (fun w' (h : Below w.heap.size w w') => sMul a c la lc ca cc xs us w' (hA.old h) (hC.old h) q1.2.1 r1.2.1 (by omega) (by omega))
  have T2 := hd (fun w' (h : Below w.heap.size w w') => sMul b d lb ld cb cd ys vs w' (hB.old h) (hD.old h) q2.2.1 r2.2.1 (by omega) (by omega))
  clear hA hB hC hD q r q1 q2 r1 r2 pA pB pC pD hf hg
  generalize val xs * val us = A at *
  generalize val ys * val vs = B at *
  have MK := hd (fun av av' cv cv' w' (h1 : InI w' av (natL A).length cv (natL A)) (h2 : InI w' av' (natL B).length cv' (natL B)) => sL6Make (!(bl == bm)) av av' cv cv' A B w' h1 h2 (by omega) (by omega) hnz)
  clear lT lU hnz
  generalize lowB A B = okk at *
  go_enter Tryz.func29, Tryz.ntmps29
  go_wp2_with fail
  refine O1.out.mono ?_
  rintro e w1 ⟨rfl, hb1⟩
  replace K1 := K1.old hb1
  replace K2 := K2.old hb1
  replace K3 := K3.old hb1
  have hB1 := old_trans e0 hb1
  obtain ⟨k1, ⟨k2, k3, k4⟩, -⟩ := id K2
  clear hb1 e0
  go_wp2_with fail
  refine (O2.out _ hB1).mono ?_
  rintro e w2 ⟨rfl, hb2⟩
  replace K1 := K1.old hb2
  replace K2 := K2.old hb2
  replace K3 := K3.old hb2
  have hB2 := old_trans hB1 hb2
  clear hb2 hB1 k1 k2 k3 k4 O1 O2
  have hk : w2.cell? ⟨w.heap.size, 0, none⟩ = some (.bool bl) ∧ w2.cell? ⟨w.heap.size, 1, none⟩ = some (.slice a la ca) ∧ w2.cell? ⟨w.heap.size, 2, none⟩ = some (.slice b lb cb) ∧ w2.cell? ⟨w.heap.size + 1, 0, none⟩ = some (.bool bm) ∧ w2.cell? ⟨w.heap.size + 1, 1, none⟩ = some (.slice c lc cc) ∧ w2.cell? ⟨w.heap.size + 1, 2, none⟩ = some (.slice d ld cd) := ⟨K1.c0, K1.c1, K1.c2, K2.c0, K2.c1, K2.c2⟩
  obtain ⟨k0, k1, k2, k3, k4, k5⟩ := id hk
  have U1 := hd (fun w' (hS : w'.cell? ⟨w.heap.size, 0, none⟩ = some (.bool bl) ∧ w'.cell? ⟨w.heap.size, 1, none⟩ = some (.slice a la ca) ∧ w'.cell? ⟨w.heap.size, 2, none⟩ = some (.slice b lb cb) ∧ w'.cell? ⟨w.heap.size + 1, 0, none⟩ = some (.bool bm) ∧ w'.cell? ⟨w.heap.size + 1, 1, none⟩ = some (.slice c lc cc) ∧ w'.cell? ⟨w.heap.size + 1, 2, none⟩ = some (.slice d ld cd)) (h : Below w2.heap.size w2 w') => (T1.out w' (old_trans hB2 h)).mono (fun e w'' (k : _ ∧ _) => (⟨k, six_old hS k.2⟩ : (_ ∧ _) ∧ (w''.cell? ⟨w.heap.size, 0, none⟩ = some (.bool bl) ∧ w''.cell? ⟨w.heap.size, 1, none⟩ = some (.slice a la ca) ∧ w''.cell? ⟨w.heap.size, 2, none⟩ = some (.slice b lb cb) ∧ w''.cell? ⟨w.heap.size + 1, 0, none⟩ = some (.bool bm) ∧ w''.cell? ⟨w.heap.size + 1, 1, none⟩ = some (.slice c lc cc) ∧ w''.cell? ⟨w.heap.size + 1, 2, none⟩ = some (.slice d ld cd)))))
  have U2 := hd (fun w' (hS : w'.cell? ⟨w.heap.size, 0, none⟩ = some (.bool bl) ∧ w'.cell? ⟨w.heap.size, 1, none⟩ = some (.slice a la ca) ∧ w'.cell? ⟨w.heap.size, 2, none⟩ = some (.slice b lb cb) ∧ w'.cell? ⟨w.heap.size + 1, 0, none⟩ = some (.bool bm) ∧ w'.cell? ⟨w.heap.size + 1, 1, none⟩ = some (.slice c lc cc) ∧ w'.cell? ⟨w.heap.size + 1, 2, none⟩ = some (.slice d ld cd)) (h : Below w2.heap.size w2 w') => (T2.out w' (old_trans hB2 h)).mono (fun e w'' (k : _ ∧ _) => (⟨k, six_old hS k.2⟩ : (_ ∧ _) ∧ (w''.cell? ⟨w.heap.size, 0, none⟩ = some (.bool bl) ∧ w''.cell? ⟨w.heap.size, 1, none⟩ = some (.slice a la ca) ∧ w''.cell? ⟨w.heap.size, 2, none⟩ = some (.slice b lb cb) ∧ w''.cell? ⟨w.heap.size + 1, 0, none⟩ = some (.bool bm) ∧ w''.cell? ⟨w.heap.size + 1, 1, none⟩ = some (.slice c lc cc) ∧ w''.cell? ⟨w.heap.size + 1, 2, none⟩ = some (.slice d ld cd)))))
  have U3 := hd (fun av av' cv cv' w' (hS : w'.cell? ⟨w.heap.size, 0, none⟩ = some (.bool bl) ∧ w'.cell? ⟨w.heap.size, 1, none⟩ = some (.slice a la ca) ∧ w'.cell? ⟨w.heap.size, 2, none⟩ = some (.slice b lb cb) ∧ w'.cell? ⟨w.heap.size + 1, 0, none⟩ = some (.bool bm) ∧ w'.cell? ⟨w.heap.size + 1, 1, none⟩ = some (.slice c lc cc) ∧ w'.cell? ⟨w.heap.size + 1, 2, none⟩ = some (.slice d ld cd)) (h1 : InI w' av (natL A).length cv (natL A)) (h2 : InI w' av' (natL B).length cv' (natL B)) => (MK.out av av' cv cv' w' h1 h2).mono (fun e w'' (k : _ ∧ _) => (⟨k, six_old hS k.2⟩ : (_ ∧ _) ∧ (w''.cell? ⟨w.heap.size, 0, none⟩ = some (.bool bl) ∧ w''.cell? ⟨w.heap.size, 1, none⟩ = some (.slice a la ca) ∧ w''.cell? ⟨w.heap.size, 2, none⟩ = some (.slice b lb cb) ∧ w''.cell? ⟨w.heap.size + 1, 0, none⟩ = some (.bool bm) ∧ w''.cell? ⟨w.heap.size + 1, 1, none⟩ = some (.slice c lc cc) ∧ w''.cell? ⟨w.heap.size + 1, 2, none⟩ = some (.slice d ld cd)))))
  have ne1 : w.heap.size + 1 + 1 ≠ w.heap.size := by omega
  have ne2 : w.heap.size + 1 + 1 ≠ w.heap.size + 1 := by omega
  clear T1 T2 K1 K2 MK
  go_wp2_with fail
  go_region_held3 (fun w' => w'.cell? ⟨w.heap.size, 0, none⟩ = some (.bool bl) ∧ w'.cell? ⟨w.heap.size, 1, none⟩ = some (.slice a la ca) ∧ w'.cell? ⟨w.heap.size, 2, none⟩ = some (.slice b lb cb) ∧ w'.cell? ⟨w.heap.size + 1, 0, none⟩ = some (.bool bm) ∧ w'.cell? ⟨w.heap.size + 1, 1, none⟩ = some (.slice c lc cc) ∧ w'.cell? ⟨w.heap.size + 1, 2, none⟩ = some (.slice d ld cd)) (go_keep) (first | (go_at_call 54; with_reducible refine (U1.out _ (by assumption) (by repeat (first | exact Below.refl _ _ | refine Below.drew ?_ | refine old_trans ?_ (by assumption)))).mono ?_; rintro e w4 ⟨⟨⟨avT, cvT, rfl, hT1⟩, hb4⟩, hc4⟩) | (go_at_call 54; with_reducible refine (U2.out _ (by assumption) (by repeat (first | exact Below.refl _ _ | refine Below.drew ?_ | refine old_trans ?_ (by assumption)))).mono ?_; rintro e w5 ⟨⟨⟨avU, cvU, rfl, hT2⟩, hb5⟩, hc5⟩) | (go_at_call 46; refine (U3.out _ _ _ _ _ (by assumption) (hT1.later hb5).inI hT2.inI).mono ?_; rintro e w6 ⟨⟨⟨av, cv, av', cv', rfl, hO, hO', hS⟩, hb6⟩, hc6⟩; have K5 := ((K3.drew.old hb4).old hb5).old hb6; have n2 := K5.c0; have n3 := K5.c1; have n4 := K5.c2; have n5 := K5.f0; have n6 := K5.f1; have n7 := K5.f2))
  all_goals
    have hs0 : w.heap.size + 1 + 1 < w5.heap.size := ((K3.drew.old hb4).old hb5).1
    have hBF : Below w.heap.size w w6 := old_trans (old_trans (old_trans hB2.drew hb4) hb5) hb6
    have hbs : w.heap.size ≤ w5.heap.size := by omega
    have hfin := hd (FRes.put (w' := w6) (s := !(bl == bm)) (base := w.heap.size) hO hO' hS hbs hs0)
    have hK := K5.setAll (.bool (fS okk (!(bl == bm)) A)) (.slice av (fT okk A B).length cv) (.slice av' (fU okk A B).length cv')
    have hBG := below_set (below_set (below_set hBF (show w.heap.size ≤ w.heap.size + 1 + 1 by omega) (i := 0) (.bool (fS okk (!(bl == bm)) A))) (show w.heap.size ≤ w.heap.size + 1 + 1 by omega) (i := 1) (.slice av (fT okk A B).length cv)) (show w.heap.size ≤ w.heap.size + 1 + 1 by omega) (i := 2) (.slice av' (fU okk A B).length cv')
    clear hT1 hT2 hO hO'
    generalize fS okk (!(bl == bm)) A = sg at *
    go_wp2
    exact bodyPost_ret (resFracMulS hK rfl rfl) rfl ⟨hfin.out, hBG⟩
end Go.Proofs.YtgoffjpfddmhhaaGreatDoor

/- Sums of ratios: the program. Conditions: digits, 1024 at most. -/
namespace Go.Proofs.YtgoffjpfddmhhaaGreatDoor
open Go.RowKit
set_option linter.unusedVariables false
set_option maxRecDepth 100000

theorem iPlusN (a b : Option Addr) (ca cb X Y : Nat) (w : World) (hA : InI w a (natL X).length ca (natL X)) (hB : InI w b (natL Y).length cb (natL Y)) (h1 : (natL X).length ≤ 2048) (h2 : (natL Y).length ≤ 2048) :
    Calls Tryz.prog 102 #[.slice a (natL X).length ca, .slice b (natL Y).length cb] w fun e w' => (∃ av cv, e = .returned (.slice av (natL (X + Y)).length cv) ∧ OI w' w.heap.size av cv (natL (X + Y))) ∧ Below w.heap.size w w' := by
  have := iPlus a b _ _ ca cb _ _ w hA hB (digs_natL X) (digs_natL Y) (by omega) (by omega)
  rw [val_natL, val_natL] at this
  exact this
theorem iMinusN (a b : Option Addr) (ca cb X Y : Nat) (w : World) (hA : InI w a (natL X).length ca (natL X)) (hB : InI w b (natL Y).length cb (natL Y)) (h1 : (natL X).length ≤ 2048) (h2 : (natL Y).length ≤ 2048) (hle : Y ≤ X) :
    Calls Tryz.prog 175 #[.slice a (natL X).length ca, .slice b (natL Y).length cb] w fun e w' => (∃ av cv, e = .returned (.slice av (natL (X - Y)).length cv) ∧ OI w' w.heap.size av cv (natL (X - Y))) ∧ Below w.heap.size w w' := by
  have := iMinus a b _ _ ca cb _ _ w hA hB (digs_natL X) (digs_natL Y) (by omega) (by omega) (by rw [val_natL, val_natL]; exact hle)
  rw [val_natL, val_natL] at this
  exact this
theorem iAgainstN (a b : Option Addr) (ca cb X Y : Nat) (w : World) (hA : InI w a (natL X).length ca (natL X)) (hB : InI w b (natL Y).length cb (natL Y)) :
    Calls Tryz.prog 80 #[.slice a (natL X).length ca, .slice b (natL Y).length cb] w fun e w' => e = .returned (.int .i64 (cmpI X Y)) ∧ Below w.heap.size w w' := by
  have := iAgainst a b _ _ ca cb _ _ w hA hB (digs_natL X) (digs_natL Y) (topped_natL X) (topped_natL Y)
  rw [val_natL, val_natL] at this
  exact this
theorem resPlus {W : World} {b : Nat} {v0 v1 v2 : Value} {tmps : Array Value} (h : Cel3 W b v0 v1 v2) (ht : tmps[4]? = some (.pointer (some ⟨b, 0, none⟩))) : (results Tryz.f167 tmps).run Tryz.prog W = .ok (.agg #[v0, v1, v2]) W := by
  obtain ⟨h1, ⟨a0, a1, a2⟩, -⟩ := h
  simp [results, Tryz.results167, go_sem, a0, a1, a2, ht]
set_option maxHeartbeats 16000000 in
theorem iPlusSame (bl : Bool) (a b : Option Addr) (la lb ca cb : Nat) (xs ys : List Int) (c d : Option Addr) (lc ld cc cd : Nat) (us vs : List Int) (w : World) (hA : InI w a la ca xs) (hB : InI w b lb cb ys) (hC : InI w c lc cc us) (hD : InI w d ld cd vs) (dx : digs xs) (dy : digs ys) (du : digs us) (dv : digs vs) (la1 : la ≤ 1024) (lb1 : lb ≤ 1024) (lc1 : lc ≤ 1024) (ld1 : ld ≤ 1024) (X Y bt : Nat) (hX : X = val xs * val vs) (hY : Y = val us * val ys) (hbt : bt = val ys * val vs) :
    Calls Tryz.prog 167 #[.agg #[.bool bl, .slice a la ca, .slice b lb cb], .agg #[.bool bl, .slice c lc cc, .slice d ld cd]] w fun e w' => (∃ a1 c1 a2 c2, e = .returned (.agg #[.bool bl, .slice a1 (natL (X + Y)).length c1, .slice a2 (natL bt).length c2]) ∧ OI w' w.heap.size a1 c1 (natL (X + Y)) ∧ OI w' w.heap.size a2 c2 (natL bt)) ∧ Below w.heap.size w w' := by
  have e0 : Below w.heap.size w (((w.alloc (.cells #[.bool bl, .slice a la ca, .slice b lb cb] 84)).alloc (.cells #[.bool bl, .slice c lc cc, .slice d ld cd] 84)).alloc (.cells #[.bool false, .slice none 0 0, .slice none 0 0] 84)) := (by repeat (first | exact Below.refl _ _ | refine Below.drew ?_ | refine old_alloc ?_ _ | refine old_trans ?_ (by assumption)))
  have K1 := ((Cel3.new w (.bool bl) (.slice a la ca) (.slice b lb cb) 84).old (old_alloc (Below.refl _ _) (.cells #[.bool bl, .slice c lc cc, .slice d ld cd] 84))).old (old_alloc (Below.refl _ _) (.cells #[.bool false, .slice none 0 0, .slice none 0 0] 84))
  have K2 := (Cel3.new (w.alloc (.cells #[.bool bl, .slice a la ca, .slice b lb cb] 84)) (.bool bl) (.slice c lc cc) (.slice d ld cd) 84).old (old_alloc (Below.refl _ _) (.cells #[.bool false, .slice none 0 0, .slice none 0 0] 84))
  have K3 := Cel3.new ((w.alloc (.cells #[.bool bl, .slice a la ca, .slice b lb cb] 84)).alloc (.cells #[.bool bl, .slice c lc cc, .slice d ld cd] 84)) (.bool false) (.slice none 0 0) (.slice none 0 0) 84
  simp only [World.size_alloc] at K2 K3
  have T1 := hd (fun w' (h : Below w.heap.size w w') => iTimes a d la ld ca cd xs vs w' (hA.old h) (hD.old h) dx dv (by omega) (by omega))
  have T2 := hd (fun w' (h : Below w.heap.size w w') => iTimes c b lc lb cc cb us ys w' (hC.old h) (hB.old h) du dy (by omega) (by omega))
  have T3 := hd (fun w' (h : Below w.heap.size w w') => iTimes b d lb ld cb cd ys vs w' (hB.old h) (hD.old h) dy dv (by omega) (by omega))
  rw [← hX] at T1
  rw [← hY] at T2
  rw [← hbt] at T3
  have lX : (natL X).length ≤ 2048 := by
    rw [hX]
    have h1 := val_lt dx
    have h2 := val_lt dv
    rw [hA.1] at h1
    rw [hD.1] at h2
    have := mul_lenG h1 h2
    omega
  have lY : (natL Y).length ≤ 2048 := by
    rw [hY]
    have h1 := val_lt du
    have h2 := val_lt dy
    rw [hC.1] at h1
    rw [hB.1] at h2
    have := mul_lenG h1 h2
    omega
  clear hA hB hC hD dx dy du dv la1 lb1 lc1 ld1 hX hY hbt
  go_enter Tryz.func167, Tryz.ntmps167
  go_wp2_with fail
  generalize hW1 : (((w.alloc (.cells #[.bool bl, .slice a la ca, .slice b lb cb] 84)).alloc (.cells #[.bool bl, .slice c lc cc, .slice d ld cd] 84)).alloc (.cells #[.bool false, .slice none 0 0, .slice none 0 0] 84)) = w1 at *
  clear hW1
  have hk : w1.cell? ⟨w.heap.size, 0, none⟩ = some (.bool bl) ∧ w1.cell? ⟨w.heap.size, 1, none⟩ = some (.slice a la ca) ∧ w1.cell? ⟨w.heap.size, 2, none⟩ = some (.slice b lb cb) ∧ w1.cell? ⟨w.heap.size + 1, 0, none⟩ = some (.bool bl) ∧ w1.cell? ⟨w.heap.size + 1, 1, none⟩ = some (.slice c lc cc) ∧ w1.cell? ⟨w.heap.size + 1, 2, none⟩ = some (.slice d ld cd) := ⟨K1.c0, K1.c1, K1.c2, K2.c0, K2.c1, K2.c2⟩
  obtain ⟨k0, k1, k2, k3, k4, k5⟩ := id hk
  have U1 := hd (fun w' (hS : w'.cell? ⟨w.heap.size, 0, none⟩ = some (.bool bl) ∧ w'.cell? ⟨w.heap.size, 1, none⟩ = some (.slice a la ca) ∧ w'.cell? ⟨w.heap.size, 2, none⟩ = some (.slice b lb cb) ∧ w'.cell? ⟨w.heap.size + 1, 0, none⟩ = some (.bool bl) ∧ w'.cell? ⟨w.heap.size + 1, 1, none⟩ = some (.slice c lc cc) ∧ w'.cell? ⟨w.heap.size + 1, 2, none⟩ = some (.slice d ld cd)) (h : Below w1.heap.size w1 w') => (T1.out w' (old_trans e0 h)).mono (fun e w'' (k : _ ∧ _) => (⟨k, six_old hS k.2⟩ : (_ ∧ _) ∧ (w''.cell? ⟨w.heap.size, 0, none⟩ = some (.bool bl) ∧ w''.cell? ⟨w.heap.size, 1, none⟩ = some (.slice a la ca) ∧ w''.cell? ⟨w.heap.size, 2, none⟩ = some (.slice b lb cb) ∧ w''.cell? ⟨w.heap.size + 1, 0, none⟩ = some (.bool bl) ∧ w''.cell? ⟨w.heap.size + 1, 1, none⟩ = some (.slice c lc cc) ∧ w''.cell? ⟨w.heap.size + 1, 2, none⟩ = some (.slice d ld cd)))))
  have U2 := hd (fun w' (hS : w'.cell? ⟨w.heap.size, 0, none⟩ = some (.bool bl) ∧ w'.cell? ⟨w.heap.size, 1, none⟩ = some (.slice a la ca) ∧ w'.cell? ⟨w.heap.size, 2, none⟩ = some (.slice b lb cb) ∧ w'.cell? ⟨w.heap.size + 1, 0, none⟩ = some (.bool bl) ∧ w'.cell? ⟨w.heap.size + 1, 1, none⟩ = some (.slice c lc cc) ∧ w'.cell? ⟨w.heap.size + 1, 2, none⟩ = some (.slice d ld cd)) (h : Below w1.heap.size w1 w') => (T2.out w' (old_trans e0 h)).mono (fun e w'' (k : _ ∧ _) => (⟨k, six_old hS k.2⟩ : (_ ∧ _) ∧ (w''.cell? ⟨w.heap.size, 0, none⟩ = some (.bool bl) ∧ w''.cell? ⟨w.heap.size, 1, none⟩ = some (.slice a la ca) ∧ w''.cell? ⟨w.heap.size, 2, none⟩ = some (.slice b lb cb) ∧ w''.cell? ⟨w.heap.size + 1, 0, none⟩ = some (.bool bl) ∧ w''.cell? ⟨w.heap.size + 1, 1, none⟩ = some (.slice c lc cc) ∧ w''.cell? ⟨w.heap.size + 1, 2, none⟩ = some (.slice d ld cd)))))
  have ne1 : w.heap.size + 1 + 1 ≠ w.heap.size := by omega
  have ne2 : w.heap.size + 1 + 1 ≠ w.heap.size + 1 := by omega
  clear T1 T2
  go_region_held3 (fun w' => w'.cell? ⟨w.heap.size, 0, none⟩ = some (.bool bl) ∧ w'.cell? ⟨w.heap.size, 1, none⟩ = some (.slice a la ca) ∧ w'.cell? ⟨w.heap.size, 2, none⟩ = some (.slice b lb cb) ∧ w'.cell? ⟨w.heap.size + 1, 0, none⟩ = some (.bool bl) ∧ w'.cell? ⟨w.heap.size + 1, 1, none⟩ = some (.slice c lc cc) ∧ w'.cell? ⟨w.heap.size + 1, 2, none⟩ = some (.slice d ld cd)) (go_keep) (first | (go_at_call 174; with_reducible refine (U1.out _ (by assumption) (by repeat (first | exact Below.refl _ _ | refine Below.drew ?_ | refine old_trans ?_ (by assumption)))).mono ?_; rintro e w4 ⟨⟨⟨avL, cvL, rfl, hL⟩, hb4⟩, hc4⟩) | (go_at_call 174; with_reducible refine (U2.out _ (by assumption) (by repeat (first | exact Below.refl _ _ | refine Below.drew ?_ | refine old_trans ?_ (by assumption)))).mono ?_; rintro e w5 ⟨⟨⟨avR, cvR, rfl, hR⟩, hb5⟩, hc5⟩))
  have hB5 : Below w.heap.size w w5 := old_trans (old_trans e0.drew hb4) hb5
  have hL5 := hL.later hb5
  have hR5 := hR
  replace K1 := (K1.drew.old hb4).old hb5
  replace K2 := (K2.drew.old hb4).old hb5
  replace K3 := (K3.drew.old hb4).old hb5
  have hs5 := K3.1
  clear U1 U2 hL hR hk k0 k1 k2 k3 k4 k5
  obtain ⟨k1, ⟨k2, k3, k4⟩, -⟩ := id K1
  obtain ⟨j1, ⟨j2, j3, j4⟩, -⟩ := id K2
  go_wp2_with fail
  refine (T3.out _ hB5).mono ?_
  rintro e w6 ⟨⟨avB, cvB, rfl, hBt⟩, hb6⟩
  have hB6 := old_trans hB5 hb6
  have hL6 := hL5.later hb6
  have hR6 := hR5.later hb6
  replace K1 := K1.old hb6
  replace K2 := K2.old hb6
  replace K3 := K3.old hb6
  clear T3 hL5 hR5 k1 k2 k3 k4 j1 j2 j3 j4
  have hk : w6.cell? ⟨w.heap.size, 0, none⟩ = some (.bool bl) ∧ w6.cell? ⟨w.heap.size, 1, none⟩ = some (.slice a la ca) ∧ w6.cell? ⟨w.heap.size, 2, none⟩ = some (.slice b lb cb) ∧ w6.cell? ⟨w.heap.size + 1, 0, none⟩ = some (.bool bl) ∧ w6.cell? ⟨w.heap.size + 1, 1, none⟩ = some (.slice c lc cc) ∧ w6.cell? ⟨w.heap.size + 1, 2, none⟩ = some (.slice d ld cd) := ⟨K1.c0, K1.c1, K1.c2, K2.c0, K2.c1, K2.c2⟩
  obtain ⟨k0, k1, k2, k3, k4, k5⟩ := id hk
  · have U4 := hd (fun w' (hS : w'.cell? ⟨w.heap.size, 0, none⟩ = some (.bool bl) ∧ w'.cell? ⟨w.heap.size, 1, none⟩ = some (.slice a la ca) ∧ w'.cell? ⟨w.heap.size, 2, none⟩ = some (.slice b lb cb) ∧ w'.cell? ⟨w.heap.size + 1, 0, none⟩ = some (.bool bl) ∧ w'.cell? ⟨w.heap.size + 1, 1, none⟩ = some (.slice c lc cc) ∧ w'.cell? ⟨w.heap.size + 1, 2, none⟩ = some (.slice d ld cd)) (h : Below w6.heap.size w6 w') => (iPlusN avL avR cvL cvR X Y w' (hL6.later h).inI (hR6.later h).inI lX lY).mono (fun e w'' (k : _ ∧ _) => (⟨k, six_old hS k.2⟩ : (_ ∧ _) ∧ (w''.cell? ⟨w.heap.size, 0, none⟩ = some (.bool bl) ∧ w''.cell? ⟨w.heap.size, 1, none⟩ = some (.slice a la ca) ∧ w''.cell? ⟨w.heap.size, 2, none⟩ = some (.slice b lb cb) ∧ w''.cell? ⟨w.heap.size + 1, 0, none⟩ = some (.bool bl) ∧ w''.cell? ⟨w.heap.size + 1, 1, none⟩ = some (.slice c lc cc) ∧ w''.cell? ⟨w.heap.size + 1, 2, none⟩ = some (.slice d ld cd)))))
    go_wp2_with fail
    go_region_held3 (fun w' => w'.cell? ⟨w.heap.size, 0, none⟩ = some (.bool bl) ∧ w'.cell? ⟨w.heap.size, 1, none⟩ = some (.slice a la ca) ∧ w'.cell? ⟨w.heap.size, 2, none⟩ = some (.slice b lb cb) ∧ w'.cell? ⟨w.heap.size + 1, 0, none⟩ = some (.bool bl) ∧ w'.cell? ⟨w.heap.size + 1, 1, none⟩ = some (.slice c lc cc) ∧ w'.cell? ⟨w.heap.size + 1, 2, none⟩ = some (.slice d ld cd)) (go_keep) (first | (go_at_call 102; refine (U4.out _ (by assumption) (by repeat (first | exact Below.refl _ _ | refine Below.drew ?_ | refine old_trans ?_ (by assumption)))).mono ?_; rintro e w8 ⟨⟨⟨avP, cvP, rfl, hP⟩, hb8⟩, hc8⟩; have K5 := K3.drew.old hb8; have n2 := K5.c0; have n3 := K5.c1; have n4 := K5.c2; have n5 := K5.f0; have n6 := K5.f1; have n7 := K5.f2))
    all_goals
      have hs2 : w.heap.size + 1 + 1 < w6.drew.heap.size := K3.1
      have o1 := (oi_set3 (v0 := .bool bl) (v1 := .slice avP (natL (X + Y)).length cvP) (v2 := .slice avB (natL bt).length cvB) hP hs2).mono (show w.heap.size ≤ _ by omega)
      have o2 := (oi_set3 (v0 := .bool bl) (v1 := .slice avP (natL (X + Y)).length cvP) (v2 := .slice avB (natL bt).length cvB) (hBt.drew.later hb8) hs5).mono (show w.heap.size ≤ _ by omega)
      have hBF : Below w.heap.size w w8 := old_trans hB6.drew hb8
      have hK := K5.setAll (.bool bl) (.slice avP (natL (X + Y)).length cvP) (.slice avB (natL bt).length cvB)
      clear hP hBt hL6 hR6 U4
      go_wp2
      exact bodyPost_ret (resPlus hK rfl) rfl ⟨⟨_, _, _, _, rfl, o1, o2⟩, below_set (below_set (below_set hBF (by omega) _) (by omega) _) (by omega) _⟩
set_option maxHeartbeats 16000000 in
theorem iPlusLess (bl : Bool) (a b : Option Addr) (la lb ca cb : Nat) (xs ys : List Int) (c d : Option Addr) (lc ld cc cd : Nat) (us vs : List Int) (w : World) (hA : InI w a la ca xs) (hB : InI w b lb cb ys) (hC : InI w c lc cc us) (hD : InI w d ld cd vs) (dx : digs xs) (dy : digs ys) (du : digs us) (dv : digs vs) (la1 : la ≤ 1024) (lb1 : lb ≤ 1024) (lc1 : lc ≤ 1024) (ld1 : ld ≤ 1024) (X Y bt : Nat) (hX : X = val xs * val vs) (hY : Y = val us * val ys) (hbt : bt = val ys * val vs) (hlt : X < Y) :
    Calls Tryz.prog 167 #[.agg #[.bool bl, .slice a la ca, .slice b lb cb], .agg #[.bool (!bl), .slice c lc cc, .slice d ld cd]] w fun e w' => (∃ a1 c1 a2 c2, e = .returned (.agg #[.bool (!bl), .slice a1 (natL (Y - X)).length c1, .slice a2 (natL bt).length c2]) ∧ OI w' w.heap.size a1 c1 (natL (Y - X)) ∧ OI w' w.heap.size a2 c2 (natL bt)) ∧ Below w.heap.size w w' := by
  have e0 : Below w.heap.size w (((w.alloc (.cells #[.bool bl, .slice a la ca, .slice b lb cb] 84)).alloc (.cells #[.bool (!bl), .slice c lc cc, .slice d ld cd] 84)).alloc (.cells #[.bool false, .slice none 0 0, .slice none 0 0] 84)) := (by repeat (first | exact Below.refl _ _ | refine Below.drew ?_ | refine old_alloc ?_ _ | refine old_trans ?_ (by assumption)))
  have K1 := ((Cel3.new w (.bool bl) (.slice a la ca) (.slice b lb cb) 84).old (old_alloc (Below.refl _ _) (.cells #[.bool (!bl), .slice c lc cc, .slice d ld cd] 84))).old (old_alloc (Below.refl _ _) (.cells #[.bool false, .slice none 0 0, .slice none 0 0] 84))
  have K2 := (Cel3.new (w.alloc (.cells #[.bool bl, .slice a la ca, .slice b lb cb] 84)) (.bool (!bl)) (.slice c lc cc) (.slice d ld cd) 84).old (old_alloc (Below.refl _ _) (.cells #[.bool false, .slice none 0 0, .slice none 0 0] 84))
  have K3 := Cel3.new ((w.alloc (.cells #[.bool bl, .slice a la ca, .slice b lb cb] 84)).alloc (.cells #[.bool (!bl), .slice c lc cc, .slice d ld cd] 84)) (.bool false) (.slice none 0 0) (.slice none 0 0) 84
  simp only [World.size_alloc] at K2 K3
  have T1 := hd (fun w' (h : Below w.heap.size w w') => iTimes a d la ld ca cd xs vs w' (hA.old h) (hD.old h) dx dv (by omega) (by omega))
  have T2 := hd (fun w' (h : Below w.heap.size w w') => iTimes c b lc lb cc cb us ys w' (hC.old h) (hB.old h) du dy (by omega) (by omega))
  have T3 := hd (fun w' (h : Below w.heap.size w w') => iTimes b d lb ld cb cd ys vs w' (hB.old h) (hD.old h) dy dv (by omega) (by omega))
  rw [← hX] at T1
  rw [← hY] at T2
  rw [← hbt] at T3
  have lX : (natL X).length ≤ 2048 := by
    rw [hX]
    have h1 := val_lt dx
    have h2 := val_lt dv
    rw [hA.1] at h1
    rw [hD.1] at h2
    have := mul_lenG h1 h2
    omega
  have lY : (natL Y).length ≤ 2048 := by
    rw [hY]
    have h1 := val_lt du
    have h2 := val_lt dy
    rw [hC.1] at h1
    rw [hB.1] at h2
    have := mul_lenG h1 h2
    omega
  clear hA hB hC hD dx dy du dv la1 lb1 lc1 ld1 hX hY hbt
  go_enter Tryz.func167, Tryz.ntmps167
  go_wp2_with fail
  generalize hW1 : (((w.alloc (.cells #[.bool bl, .slice a la ca, .slice b lb cb] 84)).alloc (.cells #[.bool (!bl), .slice c lc cc, .slice d ld cd] 84)).alloc (.cells #[.bool false, .slice none 0 0, .slice none 0 0] 84)) = w1 at *
  clear hW1
  have hk : w1.cell? ⟨w.heap.size, 0, none⟩ = some (.bool bl) ∧ w1.cell? ⟨w.heap.size, 1, none⟩ = some (.slice a la ca) ∧ w1.cell? ⟨w.heap.size, 2, none⟩ = some (.slice b lb cb) ∧ w1.cell? ⟨w.heap.size + 1, 0, none⟩ = some (.bool (!bl)) ∧ w1.cell? ⟨w.heap.size + 1, 1, none⟩ = some (.slice c lc cc) ∧ w1.cell? ⟨w.heap.size + 1, 2, none⟩ = some (.slice d ld cd) := ⟨K1.c0, K1.c1, K1.c2, K2.c0, K2.c1, K2.c2⟩
  obtain ⟨k0, k1, k2, k3, k4, k5⟩ := id hk
  have U1 := hd (fun w' (hS : w'.cell? ⟨w.heap.size, 0, none⟩ = some (.bool bl) ∧ w'.cell? ⟨w.heap.size, 1, none⟩ = some (.slice a la ca) ∧ w'.cell? ⟨w.heap.size, 2, none⟩ = some (.slice b lb cb) ∧ w'.cell? ⟨w.heap.size + 1, 0, none⟩ = some (.bool (!bl)) ∧ w'.cell? ⟨w.heap.size + 1, 1, none⟩ = some (.slice c lc cc) ∧ w'.cell? ⟨w.heap.size + 1, 2, none⟩ = some (.slice d ld cd)) (h : Below w1.heap.size w1 w') => (T1.out w' (old_trans e0 h)).mono (fun e w'' (k : _ ∧ _) => (⟨k, six_old hS k.2⟩ : (_ ∧ _) ∧ (w''.cell? ⟨w.heap.size, 0, none⟩ = some (.bool bl) ∧ w''.cell? ⟨w.heap.size, 1, none⟩ = some (.slice a la ca) ∧ w''.cell? ⟨w.heap.size, 2, none⟩ = some (.slice b lb cb) ∧ w''.cell? ⟨w.heap.size + 1, 0, none⟩ = some (.bool (!bl)) ∧ w''.cell? ⟨w.heap.size + 1, 1, none⟩ = some (.slice c lc cc) ∧ w''.cell? ⟨w.heap.size + 1, 2, none⟩ = some (.slice d ld cd)))))
  have U2 := hd (fun w' (hS : w'.cell? ⟨w.heap.size, 0, none⟩ = some (.bool bl) ∧ w'.cell? ⟨w.heap.size, 1, none⟩ = some (.slice a la ca) ∧ w'.cell? ⟨w.heap.size, 2, none⟩ = some (.slice b lb cb) ∧ w'.cell? ⟨w.heap.size + 1, 0, none⟩ = some (.bool (!bl)) ∧ w'.cell? ⟨w.heap.size + 1, 1, none⟩ = some (.slice c lc cc) ∧ w'.cell? ⟨w.heap.size + 1, 2, none⟩ = some (.slice d ld cd)) (h : Below w1.heap.size w1 w') => (T2.out w' (old_trans e0 h)).mono (fun e w'' (k : _ ∧ _) => (⟨k, six_old hS k.2⟩ : (_ ∧ _) ∧ (w''.cell? ⟨w.heap.size, 0, none⟩ = some (.bool bl) ∧ w''.cell? ⟨w.heap.size, 1, none⟩ = some (.slice a la ca) ∧ w''.cell? ⟨w.heap.size, 2, none⟩ = some (.slice b lb cb) ∧ w''.cell? ⟨w.heap.size + 1, 0, none⟩ = some (.bool (!bl)) ∧ w''.cell? ⟨w.heap.size + 1, 1, none⟩ = some (.slice c lc cc) ∧ w''.cell? ⟨w.heap.size + 1, 2, none⟩ = some (.slice d ld cd)))))
  have ne1 : w.heap.size + 1 + 1 ≠ w.heap.size := by omega
  have ne2 : w.heap.size + 1 + 1 ≠ w.heap.size + 1 := by omega
  clear T1 T2
  go_region_held3 (fun w' => w'.cell? ⟨w.heap.size, 0, none⟩ = some (.bool bl) ∧ w'.cell? ⟨w.heap.size, 1, none⟩ = some (.slice a la ca) ∧ w'.cell? ⟨w.heap.size, 2, none⟩ = some (.slice b lb cb) ∧ w'.cell? ⟨w.heap.size + 1, 0, none⟩ = some (.bool (!bl)) ∧ w'.cell? ⟨w.heap.size + 1, 1, none⟩ = some (.slice c lc cc) ∧ w'.cell? ⟨w.heap.size + 1, 2, none⟩ = some (.slice d ld cd)) (go_keep) (first | (go_at_call 174; with_reducible refine (U1.out _ (by assumption) (by repeat (first | exact Below.refl _ _ | refine Below.drew ?_ | refine old_trans ?_ (by assumption)))).mono ?_; rintro e w4 ⟨⟨⟨avL, cvL, rfl, hL⟩, hb4⟩, hc4⟩) | (go_at_call 174; with_reducible refine (U2.out _ (by assumption) (by repeat (first | exact Below.refl _ _ | refine Below.drew ?_ | refine old_trans ?_ (by assumption)))).mono ?_; rintro e w5 ⟨⟨⟨avR, cvR, rfl, hR⟩, hb5⟩, hc5⟩))
  have hB5 : Below w.heap.size w w5 := old_trans (old_trans e0.drew hb4) hb5
  have hL5 := hL.later hb5
  have hR5 := hR
  replace K1 := (K1.drew.old hb4).old hb5
  replace K2 := (K2.drew.old hb4).old hb5
  replace K3 := (K3.drew.old hb4).old hb5
  have hs5 := K3.1
  clear U1 U2 hL hR hk k0 k1 k2 k3 k4 k5
  obtain ⟨k1, ⟨k2, k3, k4⟩, -⟩ := id K1
  obtain ⟨j1, ⟨j2, j3, j4⟩, -⟩ := id K2
  go_wp2_with fail
  refine (T3.out _ hB5).mono ?_
  rintro e w6 ⟨⟨avB, cvB, rfl, hBt⟩, hb6⟩
  have hB6 := old_trans hB5 hb6
  have hL6 := hL5.later hb6
  have hR6 := hR5.later hb6
  replace K1 := K1.old hb6
  replace K2 := K2.old hb6
  replace K3 := K3.old hb6
  clear T3 hL5 hR5 k1 k2 k3 k4 j1 j2 j3 j4
  have hk : w6.cell? ⟨w.heap.size, 0, none⟩ = some (.bool bl) ∧ w6.cell? ⟨w.heap.size, 1, none⟩ = some (.slice a la ca) ∧ w6.cell? ⟨w.heap.size, 2, none⟩ = some (.slice b lb cb) ∧ w6.cell? ⟨w.heap.size + 1, 0, none⟩ = some (.bool (!bl)) ∧ w6.cell? ⟨w.heap.size + 1, 1, none⟩ = some (.slice c lc cc) ∧ w6.cell? ⟨w.heap.size + 1, 2, none⟩ = some (.slice d ld cd) := ⟨K1.c0, K1.c1, K1.c2, K2.c0, K2.c1, K2.c2⟩
  obtain ⟨k0, k1, k2, k3, k4, k5⟩ := id hk
  have AG := hd (iAgainstN avL avR cvL cvR X Y w6 hL6.inI hR6.inI)
  rw [cmpI_lt hlt] at AG
  clear hk
  go_wp2_with fail
  refine AG.out.mono ?_
  rintro e w7 ⟨rfl, hb7⟩
  clear AG k0 k1 k2 k3 k4 k5
  replace hB6 := old_trans hB6 hb7
  replace hL6 := hL6.later hb7
  replace hR6 := hR6.later hb7
  replace hBt := hBt.later hb7
  replace K1 := K1.old hb7
  replace K2 := K2.old hb7
  replace K3 := K3.old hb7
  clear hb7
  have hk : w7.cell? ⟨w.heap.size, 0, none⟩ = some (.bool bl) ∧ w7.cell? ⟨w.heap.size, 1, none⟩ = some (.slice a la ca) ∧ w7.cell? ⟨w.heap.size, 2, none⟩ = some (.slice b lb cb) ∧ w7.cell? ⟨w.heap.size + 1, 0, none⟩ = some (.bool (!bl)) ∧ w7.cell? ⟨w.heap.size + 1, 1, none⟩ = some (.slice c lc cc) ∧ w7.cell? ⟨w.heap.size + 1, 2, none⟩ = some (.slice d ld cd) := ⟨K1.c0, K1.c1, K1.c2, K2.c0, K2.c1, K2.c2⟩
  obtain ⟨k0, k1, k2, k3, k4, k5⟩ := id hk
  · have U4 := hd (fun w' (hS : w'.cell? ⟨w.heap.size, 0, none⟩ = some (.bool bl) ∧ w'.cell? ⟨w.heap.size, 1, none⟩ = some (.slice a la ca) ∧ w'.cell? ⟨w.heap.size, 2, none⟩ = some (.slice b lb cb) ∧ w'.cell? ⟨w.heap.size + 1, 0, none⟩ = some (.bool (!bl)) ∧ w'.cell? ⟨w.heap.size + 1, 1, none⟩ = some (.slice c lc cc) ∧ w'.cell? ⟨w.heap.size + 1, 2, none⟩ = some (.slice d ld cd)) (h : Below w7.heap.size w7 w') => (iMinusN avR avL cvR cvL Y X w' (hR6.later h).inI (hL6.later h).inI lY lX (Nat.le_of_lt hlt)).mono (fun e w'' (k : _ ∧ _) => (⟨k, six_old hS k.2⟩ : (_ ∧ _) ∧ (w''.cell? ⟨w.heap.size, 0, none⟩ = some (.bool bl) ∧ w''.cell? ⟨w.heap.size, 1, none⟩ = some (.slice a la ca) ∧ w''.cell? ⟨w.heap.size, 2, none⟩ = some (.slice b lb cb) ∧ w''.cell? ⟨w.heap.size + 1, 0, none⟩ = some (.bool (!bl)) ∧ w''.cell? ⟨w.heap.size + 1, 1, none⟩ = some (.slice c lc cc) ∧ w''.cell? ⟨w.heap.size + 1, 2, none⟩ = some (.slice d ld cd)))))
    go_wp2_with fail
    go_region_held3 (fun w' => w'.cell? ⟨w.heap.size, 0, none⟩ = some (.bool bl) ∧ w'.cell? ⟨w.heap.size, 1, none⟩ = some (.slice a la ca) ∧ w'.cell? ⟨w.heap.size, 2, none⟩ = some (.slice b lb cb) ∧ w'.cell? ⟨w.heap.size + 1, 0, none⟩ = some (.bool (!bl)) ∧ w'.cell? ⟨w.heap.size + 1, 1, none⟩ = some (.slice c lc cc) ∧ w'.cell? ⟨w.heap.size + 1, 2, none⟩ = some (.slice d ld cd)) (go_keep) (first | (go_at_call 175; refine (U4.out _ (by assumption) (by repeat (first | exact Below.refl _ _ | refine Below.drew ?_ | refine old_trans ?_ (by assumption)))).mono ?_; rintro e w8 ⟨⟨⟨avP, cvP, rfl, hP⟩, hb8⟩, hc8⟩; have K5 := K3.drew.old hb8; have n2 := K5.c0; have n3 := K5.c1; have n4 := K5.c2; have n5 := K5.f0; have n6 := K5.f1; have n7 := K5.f2))
    all_goals
      have hs2 : w.heap.size + 1 + 1 < w7.drew.heap.size := K3.1
      have o1 := (oi_set3 (v0 := .bool (!bl)) (v1 := .slice avP (natL (Y - X)).length cvP) (v2 := .slice avB (natL bt).length cvB) hP hs2).mono (show w.heap.size ≤ _ by omega)
      have o2 := (oi_set3 (v0 := .bool (!bl)) (v1 := .slice avP (natL (Y - X)).length cvP) (v2 := .slice avB (natL bt).length cvB) (hBt.drew.later hb8) hs5).mono (show w.heap.size ≤ _ by omega)
      have hBF : Below w.heap.size w w8 := old_trans hB6.drew hb8
      have hK := K5.setAll (.bool (!bl)) (.slice avP (natL (Y - X)).length cvP) (.slice avB (natL bt).length cvB)
      clear hP hBt hL6 hR6 U4
      go_wp2
      exact bodyPost_ret (resPlus hK rfl) rfl ⟨⟨_, _, _, _, rfl, o1, o2⟩, below_set (below_set (below_set hBF (by omega) _) (by omega) _) (by omega) _⟩
set_option maxHeartbeats 16000000 in
theorem iPlusMore (bl : Bool) (a b : Option Addr) (la lb ca cb : Nat) (xs ys : List Int) (c d : Option Addr) (lc ld cc cd : Nat) (us vs : List Int) (w : World) (hA : InI w a la ca xs) (hB : InI w b lb cb ys) (hC : InI w c lc cc us) (hD : InI w d ld cd vs) (dx : digs xs) (dy : digs ys) (du : digs us) (dv : digs vs) (la1 : la ≤ 1024) (lb1 : lb ≤ 1024) (lc1 : lc ≤ 1024) (ld1 : ld ≤ 1024) (X Y bt : Nat) (hX : X = val xs * val vs) (hY : Y = val us * val ys) (hbt : bt = val ys * val vs) (hge : Y ≤ X) (cz : Int) (hcz : cmpI X Y = cz) (hc0 : 0 ≤ cz) :
    Calls Tryz.prog 167 #[.agg #[.bool bl, .slice a la ca, .slice b lb cb], .agg #[.bool (!bl), .slice c lc cc, .slice d ld cd]] w fun e w' => (∃ a1 c1 a2 c2, e = .returned (.agg #[.bool bl, .slice a1 (natL (X - Y)).length c1, .slice a2 (natL bt).length c2]) ∧ OI w' w.heap.size a1 c1 (natL (X - Y)) ∧ OI w' w.heap.size a2 c2 (natL bt)) ∧ Below w.heap.size w w' := by
  have e0 : Below w.heap.size w (((w.alloc (.cells #[.bool bl, .slice a la ca, .slice b lb cb] 84)).alloc (.cells #[.bool (!bl), .slice c lc cc, .slice d ld cd] 84)).alloc (.cells #[.bool false, .slice none 0 0, .slice none 0 0] 84)) := (by repeat (first | exact Below.refl _ _ | refine Below.drew ?_ | refine old_alloc ?_ _ | refine old_trans ?_ (by assumption)))
  have K1 := ((Cel3.new w (.bool bl) (.slice a la ca) (.slice b lb cb) 84).old (old_alloc (Below.refl _ _) (.cells #[.bool (!bl), .slice c lc cc, .slice d ld cd] 84))).old (old_alloc (Below.refl _ _) (.cells #[.bool false, .slice none 0 0, .slice none 0 0] 84))
  have K2 := (Cel3.new (w.alloc (.cells #[.bool bl, .slice a la ca, .slice b lb cb] 84)) (.bool (!bl)) (.slice c lc cc) (.slice d ld cd) 84).old (old_alloc (Below.refl _ _) (.cells #[.bool false, .slice none 0 0, .slice none 0 0] 84))
  have K3 := Cel3.new ((w.alloc (.cells #[.bool bl, .slice a la ca, .slice b lb cb] 84)).alloc (.cells #[.bool (!bl), .slice c lc cc, .slice d ld cd] 84)) (.bool false) (.slice none 0 0) (.slice none 0 0) 84
  simp only [World.size_alloc] at K2 K3
  have T1 := hd (fun w' (h : Below w.heap.size w w') => iTimes a d la ld ca cd xs vs w' (hA.old h) (hD.old h) dx dv (by omega) (by omega))
  have T2 := hd (fun w' (h : Below w.heap.size w w') => iTimes c b lc lb cc cb us ys w' (hC.old h) (hB.old h) du dy (by omega) (by omega))
  have T3 := hd (fun w' (h : Below w.heap.size w w') => iTimes b d lb ld cb cd ys vs w' (hB.old h) (hD.old h) dy dv (by omega) (by omega))
  rw [← hX] at T1
  rw [← hY] at T2
  rw [← hbt] at T3
  have lX : (natL X).length ≤ 2048 := by
    rw [hX]
    have h1 := val_lt dx
    have h2 := val_lt dv
    rw [hA.1] at h1
    rw [hD.1] at h2
    have := mul_lenG h1 h2
    omega
  have lY : (natL Y).length ≤ 2048 := by
    rw [hY]
    have h1 := val_lt du
    have h2 := val_lt dy
    rw [hC.1] at h1
    rw [hB.1] at h2
    have := mul_lenG h1 h2
    omega
  clear hA hB hC hD dx dy du dv la1 lb1 lc1 ld1 hX hY hbt
  go_enter Tryz.func167, Tryz.ntmps167
  go_wp2_with fail
  generalize hW1 : (((w.alloc (.cells #[.bool bl, .slice a la ca, .slice b lb cb] 84)).alloc (.cells #[.bool (!bl), .slice c lc cc, .slice d ld cd] 84)).alloc (.cells #[.bool false, .slice none 0 0, .slice none 0 0] 84)) = w1 at *
  clear hW1
  have hk : w1.cell? ⟨w.heap.size, 0, none⟩ = some (.bool bl) ∧ w1.cell? ⟨w.heap.size, 1, none⟩ = some (.slice a la ca) ∧ w1.cell? ⟨w.heap.size, 2, none⟩ = some (.slice b lb cb) ∧ w1.cell? ⟨w.heap.size + 1, 0, none⟩ = some (.bool (!bl)) ∧ w1.cell? ⟨w.heap.size + 1, 1, none⟩ = some (.slice c lc cc) ∧ w1.cell? ⟨w.heap.size + 1, 2, none⟩ = some (.slice d ld cd) := ⟨K1.c0, K1.c1, K1.c2, K2.c0, K2.c1, K2.c2⟩
  obtain ⟨k0, k1, k2, k3, k4, k5⟩ := id hk
  have U1 := hd (fun w' (hS : w'.cell? ⟨w.heap.size, 0, none⟩ = some (.bool bl) ∧ w'.cell? ⟨w.heap.size, 1, none⟩ = some (.slice a la ca) ∧ w'.cell? ⟨w.heap.size, 2, none⟩ = some (.slice b lb cb) ∧ w'.cell? ⟨w.heap.size + 1, 0, none⟩ = some (.bool (!bl)) ∧ w'.cell? ⟨w.heap.size + 1, 1, none⟩ = some (.slice c lc cc) ∧ w'.cell? ⟨w.heap.size + 1, 2, none⟩ = some (.slice d ld cd)) (h : Below w1.heap.size w1 w') => (T1.out w' (old_trans e0 h)).mono (fun e w'' (k : _ ∧ _) => (⟨k, six_old hS k.2⟩ : (_ ∧ _) ∧ (w''.cell? ⟨w.heap.size, 0, none⟩ = some (.bool bl) ∧ w''.cell? ⟨w.heap.size, 1, none⟩ = some (.slice a la ca) ∧ w''.cell? ⟨w.heap.size, 2, none⟩ = some (.slice b lb cb) ∧ w''.cell? ⟨w.heap.size + 1, 0, none⟩ = some (.bool (!bl)) ∧ w''.cell? ⟨w.heap.size + 1, 1, none⟩ = some (.slice c lc cc) ∧ w''.cell? ⟨w.heap.size + 1, 2, none⟩ = some (.slice d ld cd)))))
  have U2 := hd (fun w' (hS : w'.cell? ⟨w.heap.size, 0, none⟩ = some (.bool bl) ∧ w'.cell? ⟨w.heap.size, 1, none⟩ = some (.slice a la ca) ∧ w'.cell? ⟨w.heap.size, 2, none⟩ = some (.slice b lb cb) ∧ w'.cell? ⟨w.heap.size + 1, 0, none⟩ = some (.bool (!bl)) ∧ w'.cell? ⟨w.heap.size + 1, 1, none⟩ = some (.slice c lc cc) ∧ w'.cell? ⟨w.heap.size + 1, 2, none⟩ = some (.slice d ld cd)) (h : Below w1.heap.size w1 w') => (T2.out w' (old_trans e0 h)).mono (fun e w'' (k : _ ∧ _) => (⟨k, six_old hS k.2⟩ : (_ ∧ _) ∧ (w''.cell? ⟨w.heap.size, 0, none⟩ = some (.bool bl) ∧ w''.cell? ⟨w.heap.size, 1, none⟩ = some (.slice a la ca) ∧ w''.cell? ⟨w.heap.size, 2, none⟩ = some (.slice b lb cb) ∧ w''.cell? ⟨w.heap.size + 1, 0, none⟩ = some (.bool (!bl)) ∧ w''.cell? ⟨w.heap.size + 1, 1, none⟩ = some (.slice c lc cc) ∧ w''.cell? ⟨w.heap.size + 1, 2, none⟩ = some (.slice d ld cd)))))
  have ne1 : w.heap.size + 1 + 1 ≠ w.heap.size := by omega
  have ne2 : w.heap.size + 1 + 1 ≠ w.heap.size + 1 := by omega
  clear T1 T2
  go_region_held3 (fun w' => w'.cell? ⟨w.heap.size, 0, none⟩ = some (.bool bl) ∧ w'.cell? ⟨w.heap.size, 1, none⟩ = some (.slice a la ca) ∧ w'.cell? ⟨w.heap.size, 2, none⟩ = some (.slice b lb cb) ∧ w'.cell? ⟨w.heap.size + 1, 0, none⟩ = some (.bool (!bl)) ∧ w'.cell? ⟨w.heap.size + 1, 1, none⟩ = some (.slice c lc cc) ∧ w'.cell? ⟨w.heap.size + 1, 2, none⟩ = some (.slice d ld cd)) (go_keep) (first | (go_at_call 174; with_reducible refine (U1.out _ (by assumption) (by repeat (first | exact Below.refl _ _ | refine Below.drew ?_ | refine old_trans ?_ (by assumption)))).mono ?_; rintro e w4 ⟨⟨⟨avL, cvL, rfl, hL⟩, hb4⟩, hc4⟩) | (go_at_call 174; with_reducible refine (U2.out _ (by assumption) (by repeat (first | exact Below.refl _ _ | refine Below.drew ?_ | refine old_trans ?_ (by assumption)))).mono ?_; rintro e w5 ⟨⟨⟨avR, cvR, rfl, hR⟩, hb5⟩, hc5⟩))
  have hB5 : Below w.heap.size w w5 := old_trans (old_trans e0.drew hb4) hb5
  have hL5 := hL.later hb5
  have hR5 := hR
  replace K1 := (K1.drew.old hb4).old hb5
  replace K2 := (K2.drew.old hb4).old hb5
  replace K3 := (K3.drew.old hb4).old hb5
  have hs5 := K3.1
  clear U1 U2 hL hR hk k0 k1 k2 k3 k4 k5
  obtain ⟨k1, ⟨k2, k3, k4⟩, -⟩ := id K1
  obtain ⟨j1, ⟨j2, j3, j4⟩, -⟩ := id K2
  go_wp2_with fail
  refine (T3.out _ hB5).mono ?_
  rintro e w6 ⟨⟨avB, cvB, rfl, hBt⟩, hb6⟩
  have hB6 := old_trans hB5 hb6
  have hL6 := hL5.later hb6
  have hR6 := hR5.later hb6
  replace K1 := K1.old hb6
  replace K2 := K2.old hb6
  replace K3 := K3.old hb6
  clear T3 hL5 hR5 k1 k2 k3 k4 j1 j2 j3 j4
  have hk : w6.cell? ⟨w.heap.size, 0, none⟩ = some (.bool bl) ∧ w6.cell? ⟨w.heap.size, 1, none⟩ = some (.slice a la ca) ∧ w6.cell? ⟨w.heap.size, 2, none⟩ = some (.slice b lb cb) ∧ w6.cell? ⟨w.heap.size + 1, 0, none⟩ = some (.bool (!bl)) ∧ w6.cell? ⟨w.heap.size + 1, 1, none⟩ = some (.slice c lc cc) ∧ w6.cell? ⟨w.heap.size + 1, 2, none⟩ = some (.slice d ld cd) := ⟨K1.c0, K1.c1, K1.c2, K2.c0, K2.c1, K2.c2⟩
  obtain ⟨k0, k1, k2, k3, k4, k5⟩ := id hk
  have AG := hd (iAgainstN avL avR cvL cvR X Y w6 hL6.inI hR6.inI)
  rw [hcz] at AG
  clear hk
  go_wp2_with fail
  refine AG.out.mono ?_
  rintro e w7 ⟨rfl, hb7⟩
  clear AG k0 k1 k2 k3 k4 k5
  replace hB6 := old_trans hB6 hb7
  replace hL6 := hL6.later hb7
  replace hR6 := hR6.later hb7
  replace hBt := hBt.later hb7
  replace K1 := K1.old hb7
  replace K2 := K2.old hb7
  replace K3 := K3.old hb7
  clear hb7
  have hk : w7.cell? ⟨w.heap.size, 0, none⟩ = some (.bool bl) ∧ w7.cell? ⟨w.heap.size, 1, none⟩ = some (.slice a la ca) ∧ w7.cell? ⟨w.heap.size, 2, none⟩ = some (.slice b lb cb) ∧ w7.cell? ⟨w.heap.size + 1, 0, none⟩ = some (.bool (!bl)) ∧ w7.cell? ⟨w.heap.size + 1, 1, none⟩ = some (.slice c lc cc) ∧ w7.cell? ⟨w.heap.size + 1, 2, none⟩ = some (.slice d ld cd) := ⟨K1.c0, K1.c1, K1.c2, K2.c0, K2.c1, K2.c2⟩
  obtain ⟨k0, k1, k2, k3, k4, k5⟩ := id hk
  · have U4 := hd (fun w' (hS : w'.cell? ⟨w.heap.size, 0, none⟩ = some (.bool bl) ∧ w'.cell? ⟨w.heap.size, 1, none⟩ = some (.slice a la ca) ∧ w'.cell? ⟨w.heap.size, 2, none⟩ = some (.slice b lb cb) ∧ w'.cell? ⟨w.heap.size + 1, 0, none⟩ = some (.bool (!bl)) ∧ w'.cell? ⟨w.heap.size + 1, 1, none⟩ = some (.slice c lc cc) ∧ w'.cell? ⟨w.heap.size + 1, 2, none⟩ = some (.slice d ld cd)) (h : Below w7.heap.size w7 w') => (iMinusN avL avR cvL cvR X Y w' (hL6.later h).inI (hR6.later h).inI lX lY hge).mono (fun e w'' (k : _ ∧ _) => (⟨k, six_old hS k.2⟩ : (_ ∧ _) ∧ (w''.cell? ⟨w.heap.size, 0, none⟩ = some (.bool bl) ∧ w''.cell? ⟨w.heap.size, 1, none⟩ = some (.slice a la ca) ∧ w''.cell? ⟨w.heap.size, 2, none⟩ = some (.slice b lb cb) ∧ w''.cell? ⟨w.heap.size + 1, 0, none⟩ = some (.bool (!bl)) ∧ w''.cell? ⟨w.heap.size + 1, 1, none⟩ = some (.slice c lc cc) ∧ w''.cell? ⟨w.heap.size + 1, 2, none⟩ = some (.slice d ld cd)))))
    go_wp2_with fail
    go_region_held3 (fun w' => w'.cell? ⟨w.heap.size, 0, none⟩ = some (.bool bl) ∧ w'.cell? ⟨w.heap.size, 1, none⟩ = some (.slice a la ca) ∧ w'.cell? ⟨w.heap.size, 2, none⟩ = some (.slice b lb cb) ∧ w'.cell? ⟨w.heap.size + 1, 0, none⟩ = some (.bool (!bl)) ∧ w'.cell? ⟨w.heap.size + 1, 1, none⟩ = some (.slice c lc cc) ∧ w'.cell? ⟨w.heap.size + 1, 2, none⟩ = some (.slice d ld cd)) (go_keep) (first | (go_at_call 175; refine (U4.out _ (by assumption) (by repeat (first | exact Below.refl _ _ | refine Below.drew ?_ | refine old_trans ?_ (by assumption)))).mono ?_; rintro e w8 ⟨⟨⟨avP, cvP, rfl, hP⟩, hb8⟩, hc8⟩; have K5 := K3.drew.old hb8; have n2 := K5.c0; have n3 := K5.c1; have n4 := K5.c2; have n5 := K5.f0; have n6 := K5.f1; have n7 := K5.f2))
    all_goals
      have hs2 : w.heap.size + 1 + 1 < w7.drew.heap.size := K3.1
      have o1 := (oi_set3 (v0 := .bool bl) (v1 := .slice avP (natL (X - Y)).length cvP) (v2 := .slice avB (natL bt).length cvB) hP hs2).mono (show w.heap.size ≤ _ by omega)
      have o2 := (oi_set3 (v0 := .bool bl) (v1 := .slice avP (natL (X - Y)).length cvP) (v2 := .slice avB (natL bt).length cvB) (hBt.drew.later hb8) hs5).mono (show w.heap.size ≤ _ by omega)
      have hBF : Below w.heap.size w w8 := old_trans hB6.drew hb8
      have hK := K5.setAll (.bool bl) (.slice avP (natL (X - Y)).length cvP) (.slice avB (natL bt).length cvB)
      clear hP hBt hL6 hR6 U4
      go_wp2
      exact bodyPost_ret (resPlus hK rfl) rfl ⟨⟨_, _, _, _, rfl, o1, o2⟩, below_set (below_set (below_set hBF (by omega) _) (by omega) _) (by omega) _⟩
end Go.Proofs.YtgoffjpfddmhhaaGreatDoor

/- Sums of two ratios, from nothing on: the program. Conditions: digits, 1024 at most; a ratio that is below 0 is not 0. -/
namespace Go.Proofs.YtgoffjpfddmhhaaGreatDoor
open Go.RowKit
set_option linter.unusedVariables false
set_option maxRecDepth 100000

def sumS (bl bm : Bool) (x y : Nat) : Bool := if bl = bm then bl else if x < y then bm else bl
def sumN (bl bm : Bool) (x y : Nat) : Nat := if bl = bm then x + y else if x < y then y - x else x - y
theorem iPlusR (bl : Bool) (a b : Option Addr) (la lb ca cb : Nat) (xs ys : List Int) (bm : Bool) (c d : Option Addr) (lc ld cc cd : Nat) (us vs : List Int) (w : World) (hA : InI w a la ca xs) (hB : InI w b lb cb ys) (hC : InI w c lc cc us) (hD : InI w d ld cd vs) (dx : digs xs) (dy : digs ys) (du : digs us) (dv : digs vs) (la1 : la ≤ 1024) (lb1 : lb ≤ 1024) (lc1 : lc ≤ 1024) (ld1 : ld ≤ 1024) :
    Calls Tryz.prog 167 #[.agg #[.bool bl, .slice a la ca, .slice b lb cb], .agg #[.bool bm, .slice c lc cc, .slice d ld cd]] w fun e w' => (∃ a1 c1 a2 c2, e = .returned (.agg #[.bool (sumS bl bm (val xs * val vs) (val us * val ys)), .slice a1 (natL (sumN bl bm (val xs * val vs) (val us * val ys))).length c1, .slice a2 (natL (val ys * val vs)).length c2]) ∧ OI w' w.heap.size a1 c1 (natL (sumN bl bm (val xs * val vs) (val us * val ys))) ∧ OI w' w.heap.size a2 c2 (natL (val ys * val vs))) ∧ Below w.heap.size w w' := by
  by_cases h : bl = bm
  · subst h
    have := iPlusSame bl a b la lb ca cb xs ys c d lc ld cc cd us vs w hA hB hC hD dx dy du dv la1 lb1 lc1 ld1 _ _ _ rfl rfl rfl
    unfold sumS sumN
    rw [if_pos rfl, if_pos rfl]
    exact this
  · obtain rfl : bm = !bl := by cases bl <;> cases bm <;> simp_all
    unfold sumS sumN
    rw [if_neg h, if_neg h]
    by_cases hlt : val xs * val vs < val us * val ys
    · rw [if_pos hlt, if_pos hlt]
      exact iPlusLess bl a b la lb ca cb xs ys c d lc ld cc cd us vs w hA hB hC hD dx dy du dv la1 lb1 lc1 ld1 _ _ _ rfl rfl rfl hlt
    · rw [if_neg hlt, if_neg hlt]
      refine iPlusMore bl a b la lb ca cb xs ys c d lc ld cc cd us vs w hA hB hC hD dx dy du dv la1 lb1 lc1 ld1 _ _ _ rfl rfl rfl (by omega) _ rfl ?_
      unfold cmpI
      rw [if_neg hlt]
      split <;> omega
theorem resWhole {W : World} {b : Nat} {v0 v1 v2 : Value} {tmps : Array Value} (h : Cel3 W b v0 v1 v2) (ht : tmps[4]? = some (.pointer (some ⟨b, 0, none⟩))) : (results Tryz.f162 tmps).run Tryz.prog W = .ok (.agg #[v0, v1, v2]) W := by
  obtain ⟨h1, ⟨a0, a1, a2⟩, -⟩ := h
  simp [results, Tryz.results162, go_sem, a0, a1, a2, ht]
set_option maxHeartbeats 2000000 in
theorem iWhole (s : Bool) (a : Option Addr) (l k : Nat) (w : World) : Calls Tryz.prog 162 #[.bool s, .slice a l k] w fun e w' => (∃ av cv, e = .returned (.agg #[.bool s, .slice a l k, .slice av (natL 1).length cv]) ∧ OI w' w.heap.size av cv (natL 1)) ∧ Below w.heap.size w w' := by
  have e0 : Below w.heap.size w (w.alloc (.cells #[.bool false, .slice none 0 0, .slice none 0 0] 84)) := (by repeat (first | exact Below.refl _ _ | refine Below.drew ?_ | refine old_alloc ?_ _ | refine old_trans ?_ (by assumption)))
  have K := Cel3.new w (.bool false) (.slice none 0 0) (.slice none 0 0) 84
  have O := hd iOne
  generalize natL 1 = ol at *
  go_enter Tryz.func162, Tryz.ntmps162
  go_wp2_with fail
  refine (O.out _).mono ?_
  rintro e w1 ⟨⟨av, cv, rfl, hO⟩, hb1⟩
  have hs0 := K.1
  replace K := K.old hb1
  have hB1 := old_trans e0 hb1
  obtain ⟨m1, ⟨m2, m3, m4⟩, m5, m6, m7⟩ := id K
  have o1 := (oi_set3 (v0 := .bool s) (v1 := .slice a l k) (v2 := .slice av ol.length cv) hO hs0).mono e0.size
  clear hO
  go_wp2
  exact bodyPost_ret (resWhole (K.setAll (.bool s) (.slice a l k) (.slice av ol.length cv)) rfl) rfl ⟨⟨_, _, rfl, o1⟩, below_set (below_set (below_set hB1 (by omega) _) (by omega) _) (by omega) _⟩
theorem ini_nil (w : World) : InI w none 0 0 [] := ⟨rfl, Nat.le_refl _, Nat.zero_le _, fun x hx => absurd hx (by simp), .inl rfl⟩
/-- six cells of a block -/
def Cel6 (w : World) (p : Nat) (v0 v1 v2 v3 v4 v5 : Value) : Prop := p < w.heap.size ∧ w.cell? ⟨p, 0, none⟩ = some v0 ∧ w.cell? ⟨p, 1, none⟩ = some v1 ∧ w.cell? ⟨p, 2, none⟩ = some v2 ∧ w.cell? ⟨p, 3, none⟩ = some v3 ∧ w.cell? ⟨p, 4, none⟩ = some v4 ∧ w.cell? ⟨p, 5, none⟩ = some v5
theorem Cel6.old {w w' : World} {p : Nat} {v0 v1 v2 v3 v4 v5 : Value} (h : Cel6 w p v0 v1 v2 v3 v4 v5) (g : Below w.heap.size w w') : Cel6 w' p v0 v1 v2 v3 v4 v5 := by
  obtain ⟨h0, a0, a1, a2, a3, a4, a5⟩ := h
  exact ⟨Nat.lt_of_lt_of_le h0 g.size, (g.cell (p := ⟨p, 0, none⟩) h0).trans a0, (g.cell (p := ⟨p, 1, none⟩) h0).trans a1, (g.cell (p := ⟨p, 2, none⟩) h0).trans a2, (g.cell (p := ⟨p, 3, none⟩) h0).trans a3, (g.cell (p := ⟨p, 4, none⟩) h0).trans a4, (g.cell (p := ⟨p, 5, none⟩) h0).trans a5⟩
theorem resSummed {W : World} {b : Nat} {v0 v1 v2 : Value} {tmps : Array Value} (h : Cel3 W b v0 v1 v2) (ht : tmps[2]? = some (.pointer (some ⟨b, 0, none⟩))) : (results Tryz.f156 tmps).run Tryz.prog W = .ok (.agg #[v0, v1, v2]) W := by
  obtain ⟨h1, ⟨a0, a1, a2⟩, -⟩ := h
  simp [results, Tryz.results156, go_sem, a0, a1, a2, ht]
end Go.Proofs.YtgoffjpfddmhhaaGreatDoor
