/- Sums of fractions by the specification, ahead of lowest terms. Conditions: digits, 1024 at most. -/
import Derived.Test.YtmnjkhfpgjolbaaGreatDoorFU
namespace Go.Proofs.YtmnjkhfpgjolbaaGreatDoor
open Go.RowKit
set_option linter.unusedVariables false
set_option maxRecDepth 100000

theorem add_lenG {a b n : Nat} (h1 : a < 65536 ^ n) (h2 : b < 65536 ^ n) : (natL (a + b)).length ≤ n + 1 := by
  refine natL_len.2 ?_
  rw [Nat.pow_succ]
  omega
theorem sumN_le (bl bm : Bool) (x y : Nat) : sumN bl bm x y ≤ x + y := by
  unfold sumN
  split
  · omega
  · split <;> omega
theorem sumN_len {bl bm : Bool} {x y n : Nat} (h1 : x < 65536 ^ n) (h2 : y < 65536 ^ n) : (natL (sumN bl bm x y)).length ≤ n + 1 := Nat.le_trans (natL_le (sumN_le bl bm x y)) (add_lenG h1 h2)
theorem mul_ltG {a b n m : Nat} (h1 : a < 65536 ^ n) (h2 : b < 65536 ^ m) : a * b < 65536 ^ (n + m) := by
  rw [Nat.pow_add]
  exact Nat.mul_lt_mul'' h1 h2
theorem sumN_lenG {bl bm : Bool} {a b c d n : Nat} (h1 : a < 65536 ^ n) (h2 : b < 65536 ^ n) (h3 : c < 65536 ^ n) (h4 : d < 65536 ^ n) : (natL (sumN bl bm (a * b) (c * d))).length ≤ n + n + 1 := sumN_len (mul_ltG h1 h2) (mul_ltG h3 h4)
theorem sAddN (a b : Option Addr) (ca cb X Y : Nat) (w : World) (hA : InI w a (natL X).length ca (natL X)) (hB : InI w b (natL Y).length cb (natL Y)) (h1 : (natL X).length ≤ 2048) (h2 : (natL Y).length ≤ 2048) :
    Calls Tryz.prog 28 #[.slice a (natL X).length ca, .slice b (natL Y).length cb] w fun e w' => (∃ av cv, e = .returned (.slice av (natL (X + Y)).length cv) ∧ OI w' w.heap.size av cv (natL (X + Y))) ∧ Below w.heap.size w w' := by
  have := sAdd a b _ _ ca cb _ _ w hA hB (digs_natL X) (digs_natL Y) (topped_natL X) (topped_natL Y) (by omega) (by omega)
  rw [val_natL, val_natL] at this
  exact this
theorem sSubN (a b : Option Addr) (ca cb X Y : Nat) (w : World) (hA : InI w a (natL X).length ca (natL X)) (hB : InI w b (natL Y).length cb (natL Y)) (h1 : (natL X).length ≤ 2048) (hle : Y ≤ X) :
    Calls Tryz.prog 30 #[.slice a (natL X).length ca, .slice b (natL Y).length cb] w fun e w' => (∃ av cv, e = .returned (.slice av (natL (X - Y)).length cv) ∧ OI w' w.heap.size av cv (natL (X - Y))) ∧ Below w.heap.size w w' := by
  have := sSub a b _ _ ca cb _ _ w hA hB (digs_natL X) (digs_natL Y) (by omega) (natL_le hle) (by rw [val_natL, val_natL]; exact hle)
  rw [val_natL, val_natL] at this
  exact this
theorem sCmpN (a b : Option Addr) (ca cb X Y : Nat) (w : World) (hA : InI w a (natL X).length ca (natL X)) (hB : InI w b (natL Y).length cb (natL Y)) :
    Calls Tryz.prog 29 #[.slice a (natL X).length ca, .slice b (natL Y).length cb] w fun e w' => e = .returned (.int .i64 (cmpI X Y)) ∧ Below w.heap.size w w' := by
  have := sCmp a b _ _ ca cb _ _ w hA hB (digs_natL X) (digs_natL Y) (topped_natL X) (topped_natL Y)
  rw [val_natL, val_natL] at this
  exact this
set_option maxHeartbeats 16000000 in
theorem sSumSame (bl : Bool) (a b : Option Addr) (la lb ca cb : Nat) (xs ys : List Int) (c d : Option Addr) (lc ld cc cd : Nat) (us vs : List Int) (w : World) (hA : InI w a la ca xs) (hB : InI w b lb cb ys) (hC : InI w c lc cc us) (hD : InI w d ld cd vs) (dx : digs xs) (dy : digs ys) (du : digs us) (dv : digs vs) (la1 : la ≤ 1024) (lb1 : lb ≤ 1024) (lc1 : lc ≤ 1024) (ld1 : ld ≤ 1024) (X Y bt : Nat) (hX : X = val xs * val vs) (hY : Y = val us * val ys) (hbt : bt = val ys * val vs) :
    Calls Tryz.prog 17 #[.agg #[.bool bl, .slice a la ca, .slice b lb cb], .agg #[.bool bl, .slice c lc cc, .slice d ld cd]] w fun e w' => (∃ a1 c1 a2 c2, e = .returned (.tuple #[.bool bl, .slice a1 (natL (X + Y)).length c1, .slice a2 (natL bt).length c2]) ∧ OI w' w.heap.size a1 c1 (natL (X + Y)) ∧ OI w' w.heap.size a2 c2 (natL bt)) ∧ Below w.heap.size w w' := by
  have e0 : Below w.heap.size w ((w.alloc (.cells #[.bool bl, .slice a la ca, .slice b lb cb] 27)).alloc (.cells #[.bool bl, .slice c lc cc, .slice d ld cd] 27)) := (by repeat (first | exact Below.refl _ _ | refine Below.drew ?_ | refine old_alloc ?_ _ | refine old_trans ?_ (by assumption)))
  have K1 := (Cel3.new w (.bool bl) (.slice a la ca) (.slice b lb cb) 27).old (old_alloc (Below.refl _ _) (.cells #[.bool bl, .slice c lc cc, .slice d ld cd] 27))
  have K2 := Cel3.new (w.alloc (.cells #[.bool bl, .slice a la ca, .slice b lb cb] 27)) (.bool bl) (.slice c lc cc) (.slice d ld cd) 27
  simp only [World.size_alloc] at K2
  have T1 := hd (fun w' (h : Below w.heap.size w w') => sMul a d la ld ca cd xs vs w' (hA.old h) (hD.old h) dx dv (by omega) (by omega))
  have T2 := hd (fun w' (h : Below w.heap.size w w') => sMul c b lc lb cc cb us ys w' (hC.old h) (hB.old h) du dy (by omega) (by omega))
  have T3 := hd (fun w' (h : Below w.heap.size w w') => sMul b d lb ld cb cd ys vs w' (hB.old h) (hD.old h) dy dv (by omega) (by omega))
  rw [← hX] at T1
  rw [← hY] at T2
  rw [← hbt] at T3
  have lX : (natL X).length ≤ 2048 := by
    rw [hX]
    have h1 := val_lt dx
    have h2 := val_lt dv
    rw [hA.1] at h1
    rw [hD.1] at h2
    have := mul_lenG h1 h2
    omega
  have lY : (natL Y).length ≤ 2048 := by
    rw [hY]
    have h1 := val_lt du
    have h2 := val_lt dy
    rw [hC.1] at h1
    rw [hB.1] at h2
    have := mul_lenG h1 h2
    omega
  clear hA hB hC hD dx dy du dv la1 lb1 lc1 ld1 hX hY hbt
  go_enter Tryz.func17, Tryz.ntmps17
  go_wp2_with fail
  refine (T1.out _ e0).mono ?_
  rintro e w1 ⟨⟨avL, cvL, rfl, hL⟩, hb1⟩
  have hB1 := old_trans e0 hb1
  replace K1 := K1.old hb1
  replace K2 := K2.old hb1
  clear hb1
  obtain ⟨k1, ⟨k2, k3, k4⟩, -⟩ := id K1
  obtain ⟨j1, ⟨j2, j3, j4⟩, -⟩ := id K2
  go_wp2_with fail
  refine (T2.out _ hB1).mono ?_
  rintro e w2 ⟨⟨avR, cvR, rfl, hR⟩, hb2⟩
  have hB2 := old_trans hB1 hb2
  replace K1 := K1.old hb2
  replace K2 := K2.old hb2
  replace hL := hL.later hb2
  clear hb2 k1 k2 k3 k4 j1 j2 j3 j4
  obtain ⟨k1, ⟨k2, k3, k4⟩, -⟩ := id K1
  obtain ⟨j1, ⟨j2, j3, j4⟩, -⟩ := id K2
  go_wp2_with fail
  refine (T3.out _ hB2).mono ?_
  rintro e w3 ⟨⟨avB, cvB, rfl, hBt⟩, hb3⟩
  have hB3 := old_trans hB2 hb3
  replace K1 := K1.old hb3
  replace K2 := K2.old hb3
  replace hL := hL.later hb3
  replace hR := hR.later hb3
  have hBt' := hBt.mono hB2.size
  clear hb3 k1 k2 k3 k4 j1 j2 j3 j4 T1 T2 T3 hBt
  have hk : w3.cell? ⟨w.heap.size, 0, none⟩ = some (.bool bl) ∧ w3.cell? ⟨w.heap.size, 1, none⟩ = some (.slice a la ca) ∧ w3.cell? ⟨w.heap.size, 2, none⟩ = some (.slice b lb cb) ∧ w3.cell? ⟨w.heap.size + 1, 0, none⟩ = some (.bool bl) ∧ w3.cell? ⟨w.heap.size + 1, 1, none⟩ = some (.slice c lc cc) ∧ w3.cell? ⟨w.heap.size + 1, 2, none⟩ = some (.slice d ld cd) := ⟨K1.c0, K1.c1, K1.c2, K2.c0, K2.c1, K2.c2⟩
  obtain ⟨k0, k1, k2, k3, k4, k5⟩ := id hk
  have U4 := hd (fun w' (hS : w'.cell? ⟨w.heap.size, 0, none⟩ = some (.bool bl) ∧ w'.cell? ⟨w.heap.size, 1, none⟩ = some (.slice a la ca) ∧ w'.cell? ⟨w.heap.size, 2, none⟩ = some (.slice b lb cb) ∧ w'.cell? ⟨w.heap.size + 1, 0, none⟩ = some (.bool bl) ∧ w'.cell? ⟨w.heap.size + 1, 1, none⟩ = some (.slice c lc cc) ∧ w'.cell? ⟨w.heap.size + 1, 2, none⟩ = some (.slice d ld cd)) (h : Below w3.heap.size w3 w') => (sAddN avL avR cvL cvR X Y w' (hL.later h).inI (hR.later h).inI lX lY).mono (fun e w'' (k : _ ∧ _) => (⟨k, six_old hS k.2⟩ : (_ ∧ _) ∧ (w''.cell? ⟨w.heap.size, 0, none⟩ = some (.bool bl) ∧ w''.cell? ⟨w.heap.size, 1, none⟩ = some (.slice a la ca) ∧ w''.cell? ⟨w.heap.size, 2, none⟩ = some (.slice b lb cb) ∧ w''.cell? ⟨w.heap.size + 1, 0, none⟩ = some (.bool bl) ∧ w''.cell? ⟨w.heap.size + 1, 1, none⟩ = some (.slice c lc cc) ∧ w''.cell? ⟨w.heap.size + 1, 2, none⟩ = some (.slice d ld cd)))))
  go_wp2_with fail
  go_region_held3 (fun w' => w'.cell? ⟨w.heap.size, 0, none⟩ = some (.bool bl) ∧ w'.cell? ⟨w.heap.size, 1, none⟩ = some (.slice a la ca) ∧ w'.cell? ⟨w.heap.size, 2, none⟩ = some (.slice b lb cb) ∧ w'.cell? ⟨w.heap.size + 1, 0, none⟩ = some (.bool bl) ∧ w'.cell? ⟨w.heap.size + 1, 1, none⟩ = some (.slice c lc cc) ∧ w'.cell? ⟨w.heap.size + 1, 2, none⟩ = some (.slice d ld cd)) (go_keep) (first | (go_at_call 28; refine (U4.out _ (by assumption) (by repeat (first | exact Below.refl _ _ | refine Below.drew ?_ | refine old_trans ?_ (by assumption)))).mono ?_; rintro e w8 ⟨⟨⟨avP, cvP, rfl, hP⟩, hb8⟩, hc8⟩))
  all_goals
    have o1 := hP.mono (show w.heap.size ≤ _ from hB3.size)
    have o2 := hBt'.drew.later hb8
    have hBF : Below w.heap.size w w8 := old_trans hB3.drew hb8
    clear hP hL hR U4
    go_wp2
    go_ret3
    exact ⟨⟨_, _, _, _, rfl, o1, o2⟩, hBF⟩
set_option maxHeartbeats 16000000 in
theorem sSumLess (bl : Bool) (a b : Option Addr) (la lb ca cb : Nat) (xs ys : List Int) (c d : Option Addr) (lc ld cc cd : Nat) (us vs : List Int) (w : World) (hA : InI w a la ca xs) (hB : InI w b lb cb ys) (hC : InI w c lc cc us) (hD : InI w d ld cd vs) (dx : digs xs) (dy : digs ys) (du : digs us) (dv : digs vs) (la1 : la ≤ 1024) (lb1 : lb ≤ 1024) (lc1 : lc ≤ 1024) (ld1 : ld ≤ 1024) (X Y bt : Nat) (hX : X = val xs * val vs) (hY : Y = val us * val ys) (hbt : bt = val ys * val vs) (hlt : X < Y) :
    Calls Tryz.prog 17 #[.agg #[.bool bl, .slice a la ca, .slice b lb cb], .agg #[.bool (!bl), .slice c lc cc, .slice d ld cd]] w fun e w' => (∃ a1 c1 a2 c2, e = .returned (.tuple #[.bool (!bl), .slice a1 (natL (Y - X)).length c1, .slice a2 (natL bt).length c2]) ∧ OI w' w.heap.size a1 c1 (natL (Y - X)) ∧ OI w' w.heap.size a2 c2 (natL bt)) ∧ Below w.heap.size w w' := by
  have e0 : Below w.heap.size w ((w.alloc (.cells #[.bool bl, .slice a la ca, .slice b lb cb] 27)).alloc (.cells #[.bool (!bl), .slice c lc cc, .slice d ld cd] 27)) := (by repeat (first | exact Below.refl _ _ | refine Below.drew ?_ | refine old_alloc ?_ _ | refine old_trans ?_ (by assumption)))
  have K1 := (Cel3.new w (.bool bl) (.slice a la ca) (.slice b lb cb) 27).old (old_alloc (Below.refl _ _) (.cells #[.bool (!bl), .slice c lc cc, .slice d ld cd] 27))
  have K2 := Cel3.new (w.alloc (.cells #[.bool bl, .slice a la ca, .slice b lb cb] 27)) (.bool (!bl)) (.slice c lc cc) (.slice d ld cd) 27
  simp only [World.size_alloc] at K2
  have T1 := hd (fun w' (h : Below w.heap.size w w') => sMul a d la ld ca cd xs vs w' (hA.old h) (hD.old h) dx dv (by omega) (by omega))
  have T2 := hd (fun w' (h : Below w.heap.size w w') => sMul c b lc lb cc cb us ys w' (hC.old h) (hB.old h) du dy (by omega) (by omega))
  have T3 := hd (fun w' (h : Below w.heap.size w w') => sMul b d lb ld cb cd ys vs w' (hB.old h) (hD.old h) dy dv (by omega) (by omega))
  rw [← hX] at T1
  rw [← hY] at T2
  rw [← hbt] at T3
  have lX : (natL X).length ≤ 2048 := by
    rw [hX]
    have h1 := val_lt dx
    have h2 := val_lt dv
    rw [hA.1] at h1
    rw [hD.1] at h2
    have := mul_lenG h1 h2
    omega
  have lY : (natL Y).length ≤ 2048 := by
    rw [hY]
    have h1 := val_lt du
    have h2 := val_lt dy
    rw [hC.1] at h1
    rw [hB.1] at h2
    have := mul_lenG h1 h2
    omega
  clear hA hB hC hD dx dy du dv la1 lb1 lc1 ld1 hX hY hbt
  go_enter Tryz.func17, Tryz.ntmps17
  go_wp2_with fail
  refine (T1.out _ e0).mono ?_
  rintro e w1 ⟨⟨avL, cvL, rfl, hL⟩, hb1⟩
  have hB1 := old_trans e0 hb1
  replace K1 := K1.old hb1
  replace K2 := K2.old hb1
  clear hb1
  obtain ⟨k1, ⟨k2, k3, k4⟩, -⟩ := id K1
  obtain ⟨j1, ⟨j2, j3, j4⟩, -⟩ := id K2
  go_wp2_with fail
  refine (T2.out _ hB1).mono ?_
  rintro e w2 ⟨⟨avR, cvR, rfl, hR⟩, hb2⟩
  have hB2 := old_trans hB1 hb2
  replace K1 := K1.old hb2
  replace K2 := K2.old hb2
  replace hL := hL.later hb2
  clear hb2 k1 k2 k3 k4 j1 j2 j3 j4
  obtain ⟨k1, ⟨k2, k3, k4⟩, -⟩ := id K1
  obtain ⟨j1, ⟨j2, j3, j4⟩, -⟩ := id K2
  go_wp2_with fail
  refine (T3.out _ hB2).mono ?_
  rintro e w3 ⟨⟨avB, cvB, rfl, hBt⟩, hb3⟩
  have hB3 := old_trans hB2 hb3
  replace K1 := K1.old hb3
  replace K2 := K2.old hb3
  replace hL := hL.later hb3
  replace hR := hR.later hb3
  have hBt' := hBt.mono hB2.size
  clear hb3 k1 k2 k3 k4 j1 j2 j3 j4 T1 T2 T3 hBt
  have hk : w3.cell? ⟨w.heap.size, 0, none⟩ = some (.bool bl) ∧ w3.cell? ⟨w.heap.size, 1, none⟩ = some (.slice a la ca) ∧ w3.cell? ⟨w.heap.size, 2, none⟩ = some (.slice b lb cb) ∧ w3.cell? ⟨w.heap.size + 1, 0, none⟩ = some (.bool (!bl)) ∧ w3.cell? ⟨w.heap.size + 1, 1, none⟩ = some (.slice c lc cc) ∧ w3.cell? ⟨w.heap.size + 1, 2, none⟩ = some (.slice d ld cd) := ⟨K1.c0, K1.c1, K1.c2, K2.c0, K2.c1, K2.c2⟩
  obtain ⟨k0, k1, k2, k3, k4, k5⟩ := id hk
  have AG := hd (sCmpN avL avR cvL cvR X Y w3 hL.inI hR.inI)
  rw [cmpI_lt hlt] at AG
  go_wp2_with fail
  refine AG.out.mono ?_
  rintro e w7 ⟨rfl, hb7⟩
  clear AG k0 k1 k2 k3 k4 k5 hk
  replace hB3 := old_trans hB3 hb7
  replace hL := hL.later hb7
  replace hR := hR.later hb7
  replace hBt' := hBt'.later hb7
  replace K1 := K1.old hb7
  replace K2 := K2.old hb7
  clear hb7
  have hk : w7.cell? ⟨w.heap.size, 0, none⟩ = some (.bool bl) ∧ w7.cell? ⟨w.heap.size, 1, none⟩ = some (.slice a la ca) ∧ w7.cell? ⟨w.heap.size, 2, none⟩ = some (.slice b lb cb) ∧ w7.cell? ⟨w.heap.size + 1, 0, none⟩ = some (.bool (!bl)) ∧ w7.cell? ⟨w.heap.size + 1, 1, none⟩ = some (.slice c lc cc) ∧ w7.cell? ⟨w.heap.size + 1, 2, none⟩ = some (.slice d ld cd) := ⟨K1.c0, K1.c1, K1.c2, K2.c0, K2.c1, K2.c2⟩
  obtain ⟨k0, k1, k2, k3, k4, k5⟩ := id hk
  have U4 := hd (fun w' (hS : w'.cell? ⟨w.heap.size, 0, none⟩ = some (.bool bl) ∧ w'.cell? ⟨w.heap.size, 1, none⟩ = some (.slice a la ca) ∧ w'.cell? ⟨w.heap.size, 2, none⟩ = some (.slice b lb cb) ∧ w'.cell? ⟨w.heap.size + 1, 0, none⟩ = some (.bool (!bl)) ∧ w'.cell? ⟨w.heap.size + 1, 1, none⟩ = some (.slice c lc cc) ∧ w'.cell? ⟨w.heap.size + 1, 2, none⟩ = some (.slice d ld cd)) (h : Below w7.heap.size w7 w') => (sSubN avR avL cvR cvL Y X w' (hR.later h).inI (hL.later h).inI lY (Nat.le_of_lt hlt)).mono (fun e w'' (k : _ ∧ _) => (⟨k, six_old hS k.2⟩ : (_ ∧ _) ∧ (w''.cell? ⟨w.heap.size, 0, none⟩ = some (.bool bl) ∧ w''.cell? ⟨w.heap.size, 1, none⟩ = some (.slice a la ca) ∧ w''.cell? ⟨w.heap.size, 2, none⟩ = some (.slice b lb cb) ∧ w''.cell? ⟨w.heap.size + 1, 0, none⟩ = some (.bool (!bl)) ∧ w''.cell? ⟨w.heap.size + 1, 1, none⟩ = some (.slice c lc cc) ∧ w''.cell? ⟨w.heap.size + 1, 2, none⟩ = some (.slice d ld cd)))))
  go_wp2_with fail
  go_region_held3 (fun w' => w'.cell? ⟨w.heap.size, 0, none⟩ = some (.bool bl) ∧ w'.cell? ⟨w.heap.size, 1, none⟩ = some (.slice a la ca) ∧ w'.cell? ⟨w.heap.size, 2, none⟩ = some (.slice b lb cb) ∧ w'.cell? ⟨w.heap.size + 1, 0, none⟩ = some (.bool (!bl)) ∧ w'.cell? ⟨w.heap.size + 1, 1, none⟩ = some (.slice c lc cc) ∧ w'.cell? ⟨w.heap.size + 1, 2, none⟩ = some (.slice d ld cd)) (go_keep) (first | (go_at_call 30; refine (U4.out _ (by assumption) (by repeat (first | exact Below.refl _ _ | refine Below.drew ?_ | refine old_trans ?_ (by assumption)))).mono ?_; rintro e w8 ⟨⟨⟨avP, cvP, rfl, hP⟩, hb8⟩, hc8⟩))
  all_goals
    have o1 := hP.mono (show w.heap.size ≤ _ from hB3.size)
    have o2 := hBt'.drew.later hb8
    have hBF : Below w.heap.size w w8 := old_trans hB3.drew hb8
    clear hP hL hR U4
    go_wp2
    go_ret3
    exact ⟨⟨_, _, _, _, rfl, o1, o2⟩, hBF⟩
set_option maxHeartbeats 16000000 in
theorem sSumMore (bl : Bool) (a b : Option Addr) (la lb ca cb : Nat) (xs ys : List Int) (c d : Option Addr) (lc ld cc cd : Nat) (us vs : List Int) (w : World) (hA : InI w a la ca xs) (hB : InI w b lb cb ys) (hC : InI w c lc cc us) (hD : InI w d ld cd vs) (dx : digs xs) (dy : digs ys) (du : digs us) (dv : digs vs) (la1 : la ≤ 1024) (lb1 : lb ≤ 1024) (lc1 : lc ≤ 1024) (ld1 : ld ≤ 1024) (X Y bt : Nat) (hX : X = val xs * val vs) (hY : Y = val us * val ys) (hbt : bt = val ys * val vs) (hge : Y ≤ X) (cz : Int) (hcz : cmpI X Y = cz) (hc0 : 0 ≤ cz) :
    Calls Tryz.prog 17 #[.agg #[.bool bl, .slice a la ca, .slice b lb cb], .agg #[.bool (!bl), .slice c lc cc, .slice d ld cd]] w fun e w' => (∃ a1 c1 a2 c2, e = .returned (.tuple #[.bool bl, .slice a1 (natL (X - Y)).length c1, .slice a2 (natL bt).length c2]) ∧ OI w' w.heap.size a1 c1 (natL (X - Y)) ∧ OI w' w.heap.size a2 c2 (natL bt)) ∧ Below w.heap.size w w' := by
  have e0 : Below w.heap.size w ((w.alloc (.cells #[.bool bl, .slice a la ca, .slice b lb cb] 27)).alloc (.cells #[.bool (!bl), .slice c lc cc, .slice d ld cd] 27)) := (by repeat (first | exact Below.refl _ _ | refine Below.drew ?_ | refine old_alloc ?_ _ | refine old_trans ?_ (by assumption)))
  have K1 := (Cel3.new w (.bool bl) (.slice a la ca) (.slice b lb cb) 27).old (old_alloc (Below.refl _ _) (.cells #[.bool (!bl), .slice c lc cc, .slice d ld cd] 27))
  have K2 := Cel3.new (w.alloc (.cells #[.bool bl, .slice a la ca, .slice b lb cb] 27)) (.bool (!bl)) (.slice c lc cc) (.slice d ld cd) 27
  simp only [World.size_alloc] at K2
  have T1 := hd (fun w' (h : Below w.heap.size w w') => sMul a d la ld ca cd xs vs w' (hA.old h) (hD.old h) dx dv (by omega) (by omega))
  have T2 := hd (fun w' (h : Below w.heap.size w w') => sMul c b lc lb cc cb us ys w' (hC.old h) (hB.old h) du dy (by omega) (by omega))
  have T3 := hd (fun w' (h : Below w.heap.size w w') => sMul b d lb ld cb cd ys vs w' (hB.old h) (hD.old h) dy dv (by omega) (by omega))
  rw [← hX] at T1
  rw [← hY] at T2
  rw [← hbt] at T3
  have lX : (natL X).length ≤ 2048 := by
    rw [hX]
    have h1 := val_lt dx
    have h2 := val_lt dv
    rw [hA.1] at h1
    rw [hD.1] at h2
    have := mul_lenG h1 h2
    omega
  have lY : (natL Y).length ≤ 2048 := by
    rw [hY]
    have h1 := val_lt du
    have h2 := val_lt dy
    rw [hC.1] at h1
    rw [hB.1] at h2
    have := mul_lenG h1 h2
    omega
  clear hA hB hC hD dx dy du dv la1 lb1 lc1 ld1 hX hY hbt
  go_enter Tryz.func17, Tryz.ntmps17
  go_wp2_with fail
  refine (T1.out _ e0).mono ?_
  rintro e w1 ⟨⟨avL, cvL, rfl, hL⟩, hb1⟩
  have hB1 := old_trans e0 hb1
  replace K1 := K1.old hb1
  replace K2 := K2.old hb1
  clear hb1
  obtain ⟨k1, ⟨k2, k3, k4⟩, -⟩ := id K1
  obtain ⟨j1, ⟨j2, j3, j4⟩, -⟩ := id K2
  go_wp2_with fail
  refine (T2.out _ hB1).mono ?_
  rintro e w2 ⟨⟨avR, cvR, rfl, hR⟩, hb2⟩
  have hB2 := old_trans hB1 hb2
  replace K1 := K1.old hb2
  replace K2 := K2.old hb2
  replace hL := hL.later hb2
  clear hb2 k1 k2 k3 k4 j1 j2 j3 j4
  obtain ⟨k1, ⟨k2, k3, k4⟩, -⟩ := id K1
  obtain ⟨j1, ⟨j2, j3, j4⟩, -⟩ := id K2
  go_wp2_with fail
  refine (T3.out _ hB2).mono ?_
  rintro e w3 ⟨⟨avB, cvB, rfl, hBt⟩, hb3⟩
  have hB3 := old_trans hB2 hb3
  replace K1 := K1.old hb3
  replace K2 := K2.old hb3
  replace hL := hL.later hb3
  replace hR := hR.later hb3
  have hBt' := hBt.mono hB2.size
  clear hb3 k1 k2 k3 k4 j1 j2 j3 j4 T1 T2 T3 hBt
  have hk : w3.cell? ⟨w.heap.size, 0, none⟩ = some (.bool bl) ∧ w3.cell? ⟨w.heap.size, 1, none⟩ = some (.slice a la ca) ∧ w3.cell? ⟨w.heap.size, 2, none⟩ = some (.slice b lb cb) ∧ w3.cell? ⟨w.heap.size + 1, 0, none⟩ = some (.bool (!bl)) ∧ w3.cell? ⟨w.heap.size + 1, 1, none⟩ = some (.slice c lc cc) ∧ w3.cell? ⟨w.heap.size + 1, 2, none⟩ = some (.slice d ld cd) := ⟨K1.c0, K1.c1, K1.c2, K2.c0, K2.c1, K2.c2⟩
  obtain ⟨k0, k1, k2, k3, k4, k5⟩ := id hk
  have AG := hd (sCmpN avL avR cvL cvR X Y w3 hL.inI hR.inI)
  rw [hcz] at AG
  go_wp2_with fail
  refine AG.out.mono ?_
  rintro e w7 ⟨rfl, hb7⟩
  clear AG k0 k1 k2 k3 k4 k5 hk
  replace hB3 := old_trans hB3 hb7
  replace hL := hL.later hb7
  replace hR := hR.later hb7
  replace hBt' := hBt'.later hb7
  replace K1 := K1.old hb7
  replace K2 := K2.old hb7
  clear hb7
  have hk : w7.cell? ⟨w.heap.size, 0, none⟩ = some (.bool bl) ∧ w7.cell? ⟨w.heap.size, 1, none⟩ = some (.slice a la ca) ∧ w7.cell? ⟨w.heap.size, 2, none⟩ = some (.slice b lb cb) ∧ w7.cell? ⟨w.heap.size + 1, 0, none⟩ = some (.bool (!bl)) ∧ w7.cell? ⟨w.heap.size + 1, 1, none⟩ = some (.slice c lc cc) ∧ w7.cell? ⟨w.heap.size + 1, 2, none⟩ = some (.slice d ld cd) := ⟨K1.c0, K1.c1, K1.c2, K2.c0, K2.c1, K2.c2⟩
  obtain ⟨k0, k1, k2, k3, k4, k5⟩ := id hk
  have U4 := hd (fun w' (hS : w'.cell? ⟨w.heap.size, 0, none⟩ = some (.bool bl) ∧ w'.cell? ⟨w.heap.size, 1, none⟩ = some (.slice a la ca) ∧ w'.cell? ⟨w.heap.size, 2, none⟩ = some (.slice b lb cb) ∧ w'.cell? ⟨w.heap.size + 1, 0, none⟩ = some (.bool (!bl)) ∧ w'.cell? ⟨w.heap.size + 1, 1, none⟩ = some (.slice c lc cc) ∧ w'.cell? ⟨w.heap.size + 1, 2, none⟩ = some (.slice d ld cd)) (h : Below w7.heap.size w7 w') => (sSubN avL avR cvL cvR X Y w' (hL.later h).inI (hR.later h).inI lX hge).mono (fun e w'' (k : _ ∧ _) => (⟨k, six_old hS k.2⟩ : (_ ∧ _) ∧ (w''.cell? ⟨w.heap.size, 0, none⟩ = some (.bool bl) ∧ w''.cell? ⟨w.heap.size, 1, none⟩ = some (.slice a la ca) ∧ w''.cell? ⟨w.heap.size, 2, none⟩ = some (.slice b lb cb) ∧ w''.cell? ⟨w.heap.size + 1, 0, none⟩ = some (.bool (!bl)) ∧ w''.cell? ⟨w.heap.size + 1, 1, none⟩ = some (.slice c lc cc) ∧ w''.cell? ⟨w.heap.size + 1, 2, none⟩ = some (.slice d ld cd)))))
  go_wp2_with fail
  go_region_held3 (fun w' => w'.cell? ⟨w.heap.size, 0, none⟩ = some (.bool bl) ∧ w'.cell? ⟨w.heap.size, 1, none⟩ = some (.slice a la ca) ∧ w'.cell? ⟨w.heap.size, 2, none⟩ = some (.slice b lb cb) ∧ w'.cell? ⟨w.heap.size + 1, 0, none⟩ = some (.bool (!bl)) ∧ w'.cell? ⟨w.heap.size + 1, 1, none⟩ = some (.slice c lc cc) ∧ w'.cell? ⟨w.heap.size + 1, 2, none⟩ = some (.slice d ld cd)) (go_keep) (first | (go_at_call 30; refine (U4.out _ (by assumption) (by repeat (first | exact Below.refl _ _ | refine Below.drew ?_ | refine old_trans ?_ (by assumption)))).mono ?_; rintro e w8 ⟨⟨⟨avP, cvP, rfl, hP⟩, hb8⟩, hc8⟩))
  all_goals
    have o1 := hP.mono (show w.heap.size ≤ _ from hB3.size)
    have o2 := hBt'.drew.later hb8
    have hBF : Below w.heap.size w w8 := old_trans hB3.drew hb8
    clear hP hL hR U4
    go_wp2
    go_ret3
    exact ⟨⟨_, _, _, _, rfl, o1, o2⟩, hBF⟩
theorem sL6Sum (bl : Bool) (a b : Option Addr) (la lb ca cb : Nat) (xs ys : List Int) (bm : Bool) (c d : Option Addr) (lc ld cc cd : Nat) (us vs : List Int) (w : World) (hA : InI w a la ca xs) (hB : InI w b lb cb ys) (hC : InI w c lc cc us) (hD : InI w d ld cd vs) (dx : digs xs) (dy : digs ys) (du : digs us) (dv : digs vs) (la1 : la ≤ 1024) (lb1 : lb ≤ 1024) (lc1 : lc ≤ 1024) (ld1 : ld ≤ 1024) :
    Calls Tryz.prog 17 #[.agg #[.bool bl, .slice a la ca, .slice b lb cb], .agg #[.bool bm, .slice c lc cc, .slice d ld cd]] w fun e w' => (∃ a1 c1 a2 c2, e = .returned (.tuple #[.bool (sumS bl bm (val xs * val vs) (val us * val ys)), .slice a1 (natL (sumN bl bm (val xs * val vs) (val us * val ys))).length c1, .slice a2 (natL (val ys * val vs)).length c2]) ∧ OI w' w.heap.size a1 c1 (natL (sumN bl bm (val xs * val vs) (val us * val ys))) ∧ OI w' w.heap.size a2 c2 (natL (val ys * val vs))) ∧ Below w.heap.size w w' := by
  by_cases h : bl = bm
  · subst h
    have := sSumSame bl a b la lb ca cb xs ys c d lc ld cc cd us vs w hA hB hC hD dx dy du dv la1 lb1 lc1 ld1 _ _ _ rfl rfl rfl
    unfold sumS sumN
    rw [if_pos rfl, if_pos rfl]
    exact this
  · obtain rfl : bm = !bl := by cases bl <;> cases bm <;> simp_all
    unfold sumS sumN
    rw [if_neg h, if_neg h]
    by_cases hlt : val xs * val vs < val us * val ys
    · rw [if_pos hlt, if_pos hlt]
      exact sSumLess bl a b la lb ca cb xs ys c d lc ld cc cd us vs w hA hB hC hD dx dy du dv la1 lb1 lc1 ld1 _ _ _ rfl rfl rfl hlt
    · rw [if_neg hlt, if_neg hlt]
      refine sSumMore bl a b la lb ca cb xs ys c d lc ld cc cd us vs w hA hB hC hD dx dy du dv la1 lb1 lc1 ld1 _ _ _ rfl rfl rfl (by omega) _ rfl ?_
      unfold cmpI
      rw [if_neg hlt]
      split <;> omega
end Go.Proofs.YtmnjkhfpgjolbaaGreatDoor
