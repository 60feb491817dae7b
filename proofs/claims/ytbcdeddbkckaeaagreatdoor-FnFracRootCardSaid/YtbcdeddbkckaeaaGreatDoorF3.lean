/- Fractions compared: by the program and by the specification. Conditions, of the program: the library's table and its handle of errors hold what their texts lay. -/
import Derived.Test.YtbcdeddbkckaeaaGreatDoorFX
namespace Go.Proofs.YtbcdeddbkckaeaaGreatDoor
open Go.RowKit
set_option linter.unusedVariables false
set_option maxRecDepth 100000

def cmpF (ok s : Bool) (A : Nat) : Int := if ok = true then signI true s (natL A).length else 2
theorem iSumOk (bl : Bool) (a b : Option Addr) (la lb ca cb : Nat) (xs ys : List Int) (bm : Bool) (c d : Option Addr) (lc ld cc cd : Nat) (us vs : List Int) (w : World) (p : Nat) (bn : Bool) (hP : Cel6 w p (.bool bl) (.slice a la ca) (.slice b lb cb) (.bool bn) (.slice c lc cc) (.slice d ld cd)) (hA : InI w a la ca xs) (hB : InI w b lb cb ys) (hC : InI w c lc cc us) (hD : InI w d ld cd vs) (hf : fracOk bl xs ys = true) (hg : fracOk bm us vs = true) :
    Calls Tryz.prog 46 #[.slice (some ⟨p, 0, none⟩) 2 2] w fun e w' => (∃ a1 c1 a2 c2, e = .returned (.agg #[.bool (sumS bl bn (val xs * val vs) (val us * val ys)), .slice a1 (natL (sumN bl bn (val xs * val vs) (val us * val ys))).length c1, .slice a2 (natL (val ys * val vs)).length c2]) ∧ OI w' w.heap.size a1 c1 (natL (sumN bl bn (val xs * val vs) (val us * val ys))) ∧ OI w' w.heap.size a2 c2 (natL (val ys * val vs))) ∧ Below w.heap.size w w' := by
  have q := fracOk_in hf
  have r := fracOk_in hg
  have q1 := natOk_in q.1
  have q2 := natOk_in q.2.1
  have r1 := natOk_in r.1
  have r2 := natOk_in r.2.1
  have hbl : bl = true → val xs ≠ 0 := fun h e => q.2.2.2.2 ⟨h, by
    have := natOk_canon q.1
    rw [e, natL_zero] at this
    rw [← this]; rfl⟩
  have pA := hA.1
  have pB := hB.1
  have pC := hC.1
  have pD := hD.1
  exact iSummed2 bl a b la lb ca cb xs ys bn c d lc ld cc cd us vs w p hP hA hB hC hD q1.2.1 q2.2.1 r1.2.1 r2.2.1 (by omega) (by omega) (by omega) (by omega) q1.2.2 q2.2.2 hbl
set_option maxHeartbeats 16000000 in
theorem iFracCmp (bl : Bool) (a b : Option Addr) (la lb ca cb : Nat) (xs ys : List Int) (bm : Bool) (c d : Option Addr) (lc ld cc cd : Nat) (us vs : List Int) (w : World) (hA : InI w a la ca xs) (hB : InI w b lb cb ys) (hC : InI w c lc cc us) (hD : InI w d ld cd vs) (hT : Tab w) (hE : ET w) :
    Calls Tryz.prog 21 #[.agg #[.bool bl, .slice a la ca, .slice b lb cb], .agg #[.bool bm, .slice c lc cc, .slice d ld cd]] w fun e w' => e = .returned (.int .i64 (cmpF (fracOk bl xs ys && fracOk bm us vs) (sumS bl (!bm) (val xs * val vs) (val us * val ys)) (sumN bl (!bm) (val xs * val vs) (val us * val ys)))) ∧ Below w.heap.size w w' := by
  have e0 : Below w.heap.size w ((w.alloc (.cells #[.bool bl, .slice a la ca, .slice b lb cb] 26)).alloc (.cells #[.bool bm, .slice c lc cc, .slice d ld cd] 26)) := (by repeat (first | exact Below.refl _ _ | refine Below.drew ?_ | refine old_alloc ?_ _ | refine old_trans ?_ (by assumption)))
  have K2 := Cel3.new (w.alloc (.cells #[.bool bl, .slice a la ca, .slice b lb cb] 26)) (.bool bm) (.slice c lc cc) (.slice d ld cd) 26
  simp only [World.size_alloc] at K2
  have R1 := hd (iRatioOf bl a b la lb ca cb xs ys _ (hA.old e0) (hB.old e0) (hT.old e0))
  have R2 := hd (fun w' (h : Below w.heap.size w w') => iRatioOf bm c d lc ld cc cd us vs w' (hC.old h) (hD.old h) (hT.old h))
  have F1 := hd (fun s w' (h : Below w.heap.size w w') => iFault s w' (hE.old h))
  have F0 := hd iNoFault
  have SM := hd (fun w' p (hf : fracOk bl xs ys = true) (hg : fracOk bm us vs = true) (h : Below w.heap.size w w') hP => iSumOk bl a b la lb ca cb xs ys bm c d lc ld cc cd us vs w' p (!bm) hP (hA.old h) (hB.old h) (hC.old h) (hD.old h) hf hg)
  have NG := hd (fun w' => iNegated bm c d lc ld cc cd w')
  have SG := hd (fun s a b la lb ca cb w' (h : la ≤ 9223372036854775807) => iSign s a b la lb ca cb w' h)
  obtain ⟨r, hr0⟩ : ∃ r, r = cmpF (fracOk bl xs ys && fracOk bm us vs) (sumS bl (!bm) (val xs * val vs) (val us * val ys)) (sumN bl (!bm) (val xs * val vs) (val us * val ys)) := ⟨_, rfl⟩
  rw [← hr0]
  have hr := hd hr0
  clear hr0 hA hB hC hD hT hE
  generalize sumS bl (!bm) (val xs * val vs) (val us * val ys) = s2 at *
  generalize sumN bl (!bm) (val xs * val vs) (val us * val ys) = A at *
  generalize val ys * val vs = B at *
  generalize (!bm) = bn at *
  go_enter Tryz.func21, Tryz.ntmps21
  go_wp2_with fail
  refine R1.out.mono ?_
  rintro e w1 ⟨he1, hb1⟩
  have hB1 := old_trans e0 hb1
  replace K2 := K2.old hb1
  clear R1 hb1
  rcases he1 with ⟨hf, rfl⟩ | ⟨hf, s, rfl⟩
  · have K3 := Cel3.new w1 (.bool bl) (.slice a la ca) (.slice b lb cb) 53
    have hal : Below w1.heap.size w1 (w1.alloc (.cells #[.bool bl, .slice a la ca, .slice b lb cb] 53)) := old_alloc (Below.refl _ _) _
    have hB2 := old_trans hB1 hal
    replace K2 := K2.old hal
    obtain ⟨k1, ⟨k2, k3, k4⟩, -⟩ := id K2
    go_wp2_with fail
    refine (R2.out _ hB2).mono ?_
    rintro e w2 ⟨he2, hb2⟩
    have hB3 := old_trans hB2 hb2
    replace K3 := K3.old hb2
    clear hb2 R2 k1 k2 k3 k4 hal K2 hB1 hB2
    rcases he2 with ⟨hg, rfl⟩ | ⟨hg, s, rfl⟩
    · have hr' : Hid (r = signI true s2 (natL A).length) := by
        show _ = _
        rw [hr.out, hf, hg]; rfl
      replace SM := hd (fun w' p => SM.out w' p hf hg)
      have K4 := Cel3.new w2 (.bool bm) (.slice c lc cc) (.slice d ld cd) 53
      have hal : Below w2.heap.size w2 (w2.alloc (.cells #[.bool bm, .slice c lc cc, .slice d ld cd] 53)) := old_alloc (Below.refl _ _) _
      have hB4 := old_trans hB3 hal
      replace K3 := K3.old hal
      clear hf hg hr hal
      go_wp2_with fail
      refine (F0.out _).mono ?_
      rintro e w3 ⟨rfl, hb3⟩
      replace K3 := K3.old hb3
      replace K4 := K4.old hb3
      have hB5 := old_trans hB4 hb3
      clear hb3
      go_wp2_with fail
      refine (F0.out _).mono ?_
      rintro e w4 ⟨rfl, hb4⟩
      replace K3 := K3.old hb4
      replace K4 := K4.old hb4
      have hB6 := old_trans hB5 hb4
      clear hb4 hB3 hB4 hB5 F0 F1
      generalize w1.heap.size = p1 at *
      generalize w2.heap.size = p2 at *
      have hk : w4.cell? ⟨p1, 0, none⟩ = some (.bool bl) ∧ w4.cell? ⟨p1, 1, none⟩ = some (.slice a la ca) ∧ w4.cell? ⟨p1, 2, none⟩ = some (.slice b lb cb) ∧ w4.cell? ⟨p2, 0, none⟩ = some (.bool bm) ∧ w4.cell? ⟨p2, 1, none⟩ = some (.slice c lc cc) ∧ w4.cell? ⟨p2, 2, none⟩ = some (.slice d ld cd) := ⟨K3.c0, K3.c1, K3.c2, K4.c0, K4.c1, K4.c2⟩
      obtain ⟨k0, k1, k2, k3, k4, k5⟩ := id hk
      generalize natL A = tl at *
      generalize natL B = ul at *
      have U1 := hd (fun w' (hS : w'.cell? ⟨p1, 0, none⟩ = some (.bool bl) ∧ w'.cell? ⟨p1, 1, none⟩ = some (.slice a la ca) ∧ w'.cell? ⟨p1, 2, none⟩ = some (.slice b lb cb) ∧ w'.cell? ⟨p2, 0, none⟩ = some (.bool bm) ∧ w'.cell? ⟨p2, 1, none⟩ = some (.slice c lc cc) ∧ w'.cell? ⟨p2, 2, none⟩ = some (.slice d ld cd)) => (NG.out w').mono (fun e w'' (k : _ ∧ _) => (⟨k, six_old hS k.2⟩ : (_ ∧ _) ∧ (w''.cell? ⟨p1, 0, none⟩ = some (.bool bl) ∧ w''.cell? ⟨p1, 1, none⟩ = some (.slice a la ca) ∧ w''.cell? ⟨p1, 2, none⟩ = some (.slice b lb cb) ∧ w''.cell? ⟨p2, 0, none⟩ = some (.bool bm) ∧ w''.cell? ⟨p2, 1, none⟩ = some (.slice c lc cc) ∧ w''.cell? ⟨p2, 2, none⟩ = some (.slice d ld cd)))))
      have U2 := hd (fun w' p (hS : w'.cell? ⟨p1, 0, none⟩ = some (.bool bl) ∧ w'.cell? ⟨p1, 1, none⟩ = some (.slice a la ca) ∧ w'.cell? ⟨p1, 2, none⟩ = some (.slice b lb cb) ∧ w'.cell? ⟨p2, 0, none⟩ = some (.bool bm) ∧ w'.cell? ⟨p2, 1, none⟩ = some (.slice c lc cc) ∧ w'.cell? ⟨p2, 2, none⟩ = some (.slice d ld cd)) (h : Below w4.heap.size w4 w') hP => (SM.out w' p (old_trans hB6 h) hP).mono (fun e w'' (k : _ ∧ _) => (⟨k, six_old hS k.2⟩ : (_ ∧ _) ∧ (w''.cell? ⟨p1, 0, none⟩ = some (.bool bl) ∧ w''.cell? ⟨p1, 1, none⟩ = some (.slice a la ca) ∧ w''.cell? ⟨p1, 2, none⟩ = some (.slice b lb cb) ∧ w''.cell? ⟨p2, 0, none⟩ = some (.bool bm) ∧ w''.cell? ⟨p2, 1, none⟩ = some (.slice c lc cc) ∧ w''.cell? ⟨p2, 2, none⟩ = some (.slice d ld cd)))))
      have U3 := hd (fun s' a' b' la' lb' ca' cb' w' (hS : w'.cell? ⟨p1, 0, none⟩ = some (.bool bl) ∧ w'.cell? ⟨p1, 1, none⟩ = some (.slice a la ca) ∧ w'.cell? ⟨p1, 2, none⟩ = some (.slice b lb cb) ∧ w'.cell? ⟨p2, 0, none⟩ = some (.bool bm) ∧ w'.cell? ⟨p2, 1, none⟩ = some (.slice c lc cc) ∧ w'.cell? ⟨p2, 2, none⟩ = some (.slice d ld cd)) (h : la' ≤ 9223372036854775807) => (SG.out s' a' b' la' lb' ca' cb' w' h).mono (fun e w'' (k : _ ∧ _) => (⟨k, six_old hS k.2⟩ : (_ ∧ _) ∧ (w''.cell? ⟨p1, 0, none⟩ = some (.bool bl) ∧ w''.cell? ⟨p1, 1, none⟩ = some (.slice a la ca) ∧ w''.cell? ⟨p1, 2, none⟩ = some (.slice b lb cb) ∧ w''.cell? ⟨p2, 0, none⟩ = some (.bool bm) ∧ w''.cell? ⟨p2, 1, none⟩ = some (.slice c lc cc) ∧ w''.cell? ⟨p2, 2, none⟩ = some (.slice d ld cd)))))
      clear NG SM SG K3 K4
      go_wp2_with fail
      go_region_held3 (fun w' => w'.cell? ⟨p1, 0, none⟩ = some (.bool bl) ∧ w'.cell? ⟨p1, 1, none⟩ = some (.slice a la ca) ∧ w'.cell? ⟨p1, 2, none⟩ = some (.slice b lb cb) ∧ w'.cell? ⟨p2, 0, none⟩ = some (.bool bm) ∧ w'.cell? ⟨p2, 1, none⟩ = some (.slice c lc cc) ∧ w'.cell? ⟨p2, 2, none⟩ = some (.slice d ld cd)) (go_keep) (first | (go_at_call 49; refine (U1.out _ (by assumption)).mono ?_; rintro e w5 ⟨⟨rfl, hb5⟩, hc5⟩) | (go_at_call 46; refine (U2.out _ _ (by assumption) (by repeat (first | exact Below.refl _ _ | assumption | refine Below.drew ?_ | refine old_alloc ?_ _ | refine old_trans ?_ (by assumption))) (Cel6.new _ _ _ _ _ _ _ _)).mono ?_; rintro e w6 ⟨⟨⟨a1, c1, a2, c2, rfl, hO, hO'⟩, hb6⟩, hc6⟩) | (go_at_call 39; refine (U3.out _ _ _ _ _ _ _ _ (by assumption) hO.inI.len).mono ?_; rintro e w7 ⟨⟨rfl, hb7⟩, hc7⟩))
      all_goals
        have hB7 : Below w.heap.size w w7 := (by repeat (first | exact hB6 | refine Below.drew ?_ | refine old_alloc ?_ _ | refine old_trans ?_ (by assumption)))
        clear hO hO' U1 U2 U3
        generalize signI true s2 tl.length = sg at *
        go_wp2
        go_ret
        exact ⟨retI hr'.out, hB7⟩
    · have hr' : Hid (r = 2) := by
        show _ = _
        rw [hr.out, hg, Bool.and_false]; rfl
      have hB4 := old_alloc hB3 (.cells #[.bool false, .slice none 0 0, .slice none 0 0] 53)
      clear hf hg hr
      go_wp2_with fail
      refine (F0.out _).mono ?_
      rintro e w3 ⟨rfl, hb3⟩
      have hB5 := old_trans hB4 hb3
      go_wp2_with fail
      refine (F1.out _ _ hB5).mono ?_
      rintro e w4 ⟨rfl, hb4⟩
      go_wp2
      go_ret
      exact ⟨retI hr'.out, old_trans hB5 hb4⟩
  · have hr' : Hid (r = 2) := by
      show _ = _
      rw [hr.out, hf, Bool.false_and]; rfl
    have hal : Below w1.heap.size w1 (w1.alloc (.cells #[.bool false, .slice none 0 0, .slice none 0 0] 53)) := old_alloc (Below.refl _ _) _
    have hB2 := old_trans hB1 hal
    replace K2 := K2.old hal
    obtain ⟨k1, ⟨k2, k3, k4⟩, -⟩ := id K2
    clear hr hf
    go_wp2_with fail
    refine (R2.out _ hB2).mono ?_
    rintro e w2 ⟨he2, hb2⟩
    have hB3 := old_trans hB2 hb2
    clear hb2 R2 k1 k2 k3 k4 hal K2 hB1 hB2
    rcases he2 with ⟨hg, rfl⟩ | ⟨hg, s', rfl⟩
    · have hB4 := old_alloc hB3 (.cells #[.bool bm, .slice c lc cc, .slice d ld cd] 53)
      clear hg
      go_wp2_with fail
      refine (F1.out _ _ hB4).mono ?_
      rintro e w3 ⟨rfl, hb3⟩
      go_wp2
      go_ret
      exact ⟨retI hr'.out, old_trans hB4 hb3⟩
    · have hB4 := old_alloc hB3 (.cells #[.bool false, .slice none 0 0, .slice none 0 0] 53)
      clear hg
      go_wp2_with fail
      refine (F1.out _ _ hB4).mono ?_
      rintro e w3 ⟨rfl, hb3⟩
      go_wp2
      go_ret
      exact ⟨retI hr'.out, old_trans hB4 hb3⟩
end Go.Proofs.YtbcdeddbkckaeaaGreatDoor
