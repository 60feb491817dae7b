/- The program's BoxMeet answers as the specification's BoxMeet at every argument; it writes into no argument, and what it answers is its own. No condition. -/
import Derived.Test.YtmeijbiohbpgpaaRows
import Derived.WalkKit
import Derived.ProofKit
import Derived.OpenShut
import Derived.Below
import Derived.Carry
import Derived.Test.YtmeijbiohbpgpaaO1
import Derived.Test.YtmeijbiohbpgpaaEA
import Derived.Test.YtmeijbiohbpgpaaCut
import Derived.Test.YtmeijbiohbpgpaaJJ
import Derived.Test.YtmeijbiohbpgpaaJ6
namespace Go.Proofs.Ytmeijbiohbpgpaa
open Go.ChangeShapes Go.WideShapes Go.ChangeAt Go.RowKit
set_option linter.unusedVariables false

theorem FnExactBoxMeet_own : ownKnob Try.prog.godebug = none := by kernel_rfl

set_option maxRecDepth 100000 in
set_option maxHeartbeats 4000000 in
theorem FnExactBoxMeet_walk (a0 : Int) (wa0 : -9223372036854775808 ≤ a0 ∧ a0 ≤ 9223372036854775807) (a1 : Option Addr) (len1 cap1 : Nat) (ps1 : List (Int × Int)) (a2 : Option Addr) (len2 cap2 : Nat) (ps2 : List (Int × Int)) (w : World) (wb1 : InRow w a1 len1 cap1 ps1) (wb2 : InRow w a2 len2 cap2 ps2):
    Calls Try.prog 5 #[.int .i64 a0, .agg #[.slice a1 len1 cap1], .agg #[.slice a2 len2 cap2]] w fun e w' => e = .returned (.bool true) ∧ Below w.heap.size w w' := by
  obtain rfl := wb1.1
  have hlen1 : ps1.length ≤ maxLen := Nat.le_trans wb1.2.1 wb1.2.2.1
  obtain rfl := wb2.1
  have hlen2 : ps2.length ≤ maxLen := Nat.le_trans wb2.2.1 wb2.2.2.1
  have SZ := hd (lSzBox a1 ps1.length cap1 1048576 hlen1 (by omega) (by omega))
  by_cases c : (ps1.length : Int) ≤ 1048576
  case neg =>
    rw [if_neg c] at SZ
    go_enter Try.func5, Try.ntmps5
    go_wp2_with (go_at_call 15; refine (SZ.out _).mono ?_; rintro e w1 ⟨rfl, hb1⟩)
    go_ret
    exact ⟨rfl, (by repeat (first | exact Below.refl _ _ | refine Below.drew ?_ | refine old_alloc ?_ _ | refine old_trans ?_ (by assumption)))⟩
  rw [if_pos c] at SZ
  have hl1 : ps1.length ≤ 1048576 := by omega
  have c1 : ¬ (1048576 - (ps1.length : Int) < 0) := by omega
  have SY := hd (lSzBox a2 ps2.length cap2 (1048576 - (ps1.length : Int)) hlen2 (by omega) (by omega))
  have K : Cel1 ((w.alloc (.cells #[.slice a1 ps1.length cap1] 24)).alloc (.cells #[.slice a2 ps2.length cap2] 24)) w.heap.size (.slice a1 ps1.length cap1) := (Cel1.made w _ rfl _ _).alloc _
  have M : Cel1 ((w.alloc (.cells #[.slice a1 ps1.length cap1] 24)).alloc (.cells #[.slice a2 ps2.length cap2] 24)) (w.heap.size + 1) (.slice a2 ps2.length cap2) := Cel1.made _ _ (by simp) _ _
  have R := (wb1.alloc (.cells #[.slice a1 ps1.length cap1] 24)).alloc (.cells #[.slice a2 ps2.length cap2] 24)
  have T := (wb2.alloc (.cells #[.slice a1 ps1.length cap1] 24)).alloc (.cells #[.slice a2 ps2.length cap2] 24)
  have hB : Below w.heap.size w ((w.alloc (.cells #[.slice a1 ps1.length cap1] 24)).alloc (.cells #[.slice a2 ps2.length cap2] 24)) := (by repeat (first | exact Below.refl _ _ | refine Below.drew ?_ | refine old_alloc ?_ _ | refine old_trans ?_ (by assumption)))
  clear c
  by_cases c : (ps2.length : Int) ≤ 1048576 - (ps1.length : Int)
  case neg =>
    rw [if_neg c] at SY
    go_enter Try.func5, Try.ntmps5
    go_wp2_with fail
    refine (SZ.out _).mono ?_
    rintro e w1 ⟨rfl, hb1⟩
    replace M := M.later hb1
    have M0 := M.1
    have M2 := M.2.2
    go_wp2_with (go_at_call 15; refine (SY.out _).mono ?_; rintro e w2 ⟨rfl, hb2⟩)
    go_ret
    exact ⟨rfl, (by repeat (first | exact Below.refl _ _ | refine Below.drew ?_ | refine old_alloc ?_ _ | refine old_trans ?_ (by assumption)))⟩
  rw [if_pos c] at SY
  have hl2 : ps2.length ≤ 1048576 := by omega
  have c2 : ¬ (1048576 - (ps1.length : Int) - (ps2.length : Int) < 0) := by omega
  clear c
  have S := hd (fun a a' len len' cap cap' w (h : InRow w a len cap ps1) (h' : InRow w a' len' cap' ps2) => sBoxMeetO a0 a a' len len' cap cap' ps1 ps2 w h h')
  have I := hd (fun a a' len len' cap cap' w (h : InRow w a len cap ps1) (h' : InRow w a' len' cap' ps2) => iBoxMeetO a0 a a' len len' cap cap' ps1 ps2 w h h')
  have hql : (resL (meetRow a0 ps1 ps2) (meetL ps1 ps2)).length ≤ 1048576 := res_len (by unfold meetL; rw [madeL_length]; exact hl1)
  generalize resL (meetRow a0 ps1 ps2) (meetL ps1 ps2) = ql at *
  generalize meetRow a0 ps1 ps2 = r at *
  have hx1 : ¬ (1 + 2 * (ps1.length : Int) < 0) := by omega
  have hx3 : ¬ (1 + 2 * (ps1.length : Int) + 2 * (ps2.length : Int) < 0) := by omega
  have hx2 : ¬ (1 + 2 * (ql.length : Int) < 0) := by omega
  go_enter Try.func5, Try.ntmps5
  go_wp2_with fail
  refine (SZ.out _).mono ?_
  rintro e w1 ⟨rfl, hb1⟩
  replace K := (by with_reducible first | exact K.later hb1 | exact (K.alloc _).later hb1 : Cel1 w1 _ _)
  replace M := (by with_reducible first | exact M.later hb1 | exact (M.alloc _).later hb1 : Cel1 w1 _ _)
  replace R := (by with_reducible first | exact R.old hb1 | exact (R.alloc _).old hb1 : InRow w1 _ _ _ _)
  replace T := (by with_reducible first | exact T.old hb1 | exact (T.alloc _).old hb1 : InRow w1 _ _ _ _)
  replace hB := (by with_reducible first | exact old_trans hB hb1 | exact old_trans (old_alloc hB _) hb1 : Below w.heap.size w w1)
  have K0 := K.1
  have K2 := K.2.2
  have M0 := M.1
  have M2 := M.2.2
  go_wp2_with fail
  refine (SY.out _).mono ?_
  rintro e w2 ⟨rfl, hb2⟩
  clear K0 K2 M0 M2
  replace K := (by with_reducible first | exact K.later hb2 | exact (K.alloc _).later hb2 : Cel1 w2 _ _)
  replace M := (by with_reducible first | exact M.later hb2 | exact (M.alloc _).later hb2 : Cel1 w2 _ _)
  replace R := (by with_reducible first | exact R.old hb2 | exact (R.alloc _).old hb2 : InRow w2 _ _ _ _)
  replace T := (by with_reducible first | exact T.old hb2 | exact (T.alloc _).old hb2 : InRow w2 _ _ _ _)
  replace hB := (by with_reducible first | exact old_trans hB hb2 | exact old_trans (old_alloc hB _) hb2 : Below w.heap.size w w2)
  have K0 := K.1
  have K2 := K.2.2
  have M0 := M.1
  have M2 := M.2.2
  have hz0 := Nat.le_refl w2.heap.size
  have Kn := Nat.ne_of_lt K2
  have Ko := Nat.ne_of_gt K2
  have Mn := Nat.ne_of_lt M2
  have Mo := Nat.ne_of_gt M2
  have l_K_W := K.ltb (Below.refl _ w2)
  have l_M_W := M.ltb (Below.refl _ w2)
  have l_R_W := R.ltb (Below.refl _ w2)
  have l_T_W := T.ltb (Below.refl _ w2)
  have n_W := hB.size
  go_upto_region 8 with fail
  go_cut [8, 9] (fun s t wx => ∃ pb av cv, s = .pointer (some ⟨pb, 0, none⟩) ∧ t = .bool r ∧ Cel1 wx pb (.slice av ql.length cv) ∧ OB wx w2.heap.size av cv ql ∧ w2.heap.size ≤ pb ∧ Cel1 wx w.heap.size (.slice a1 ps1.length cap1) ∧ Cel1 wx (w.heap.size + 1) (.slice a2 ps2.length cap2) ∧ InRow wx a1 ps1.length cap1 ps1 ∧ InRow wx a2 ps2.length cap2 ps2 ∧ Below w.heap.size w wx)
  case first =>
    go_wp2_with fail
    go_region_held3 (fun w' => w'.cell? ⟨w.heap.size, 0, none⟩ = some (.slice a1 ps1.length cap1) ∧ w'.cell? ⟨(w.heap.size + 1), 0, none⟩ = some (.slice a2 ps2.length cap2)) (go_keep) (first | (go_at_call_of 17 (Value.agg #[.slice a1 ps1.length cap1]); refine (toBoxO a1 cap1 ps1 _ (by with_reducible first | exact R | exact R.drew | exact R.alloc _ | exact (R.alloc _).drew) hl1).mono ?_; rintro e wx ⟨⟨avZi, cvZi, rfl, Zi⟩, hbx⟩; (with_reducible first | (have lN := N.ltb hbx; have N := N.later hbx) | (have lN := N.drew.ltb hbx; have N := N.drew.later hbx) | (have hpN := hz0; have lN := (Cel1.made _ _ rfl (.slice none 0 0) 29).ltb hbx; have N := (Cel1.made _ _ rfl (.slice none 0 0) 29).later hbx) | (have hpN := hz0; have lN := (Cel1.made _ _ rfl (.slice none 0 0) 29).drew.ltb hbx; have N := (Cel1.made _ _ rfl (.slice none 0 0) 29).drew.later hbx) | skip); (first | (have N0 := N.1; have N1 := N.2.1; have N2 := N.2.2; have Nn := Nat.ne_of_lt N2; have No := Nat.ne_of_gt N2) | skip); have hz0 : w2.heap.size ≤ wx.heap.size := Nat.le_trans hz0 (sz_le hbx (by first | exact Nat.le_refl _ | (simp; done))); have K := (by with_reducible first | exact K.later hbx | exact K.drew.later hbx | exact (K.alloc _).later hbx | exact (K.alloc _).drew.later hbx : Cel1 wx _ _); have K0 := K.1; have K2 := K.2.2; have Kn := Nat.ne_of_lt K2; have Ko := Nat.ne_of_gt K2; have M := (by with_reducible first | exact M.later hbx | exact M.drew.later hbx | exact (M.alloc _).later hbx | exact (M.alloc _).drew.later hbx : Cel1 wx _ _); have M0 := M.1; have M2 := M.2.2; have Mn := Nat.ne_of_lt M2; have Mo := Nat.ne_of_gt M2; have R := (by with_reducible first | exact R.old hbx | exact R.drew.old hbx | exact (R.alloc _).old hbx | exact (R.alloc _).drew.old hbx : InRow wx _ _ _ _); have T := (by with_reducible first | exact T.old hbx | exact T.drew.old hbx | exact (T.alloc _).old hbx | exact (T.alloc _).drew.old hbx : InRow wx _ _ _ _); have hB := (by with_reducible first | exact old_trans hB hbx | exact old_trans hB.drew hbx | exact old_trans (old_alloc hB _) hbx | exact old_trans (old_alloc hB _).drew hbx : Below w.heap.size w wx); (first | (have Zj := (by with_reducible first | exact Zj.later hbx | exact Zj.drew.later hbx | exact (Zj.alloc _).later hbx | exact (Zj.alloc _).drew.later hbx : OB wx _ _ _ _)) | skip)) | (go_at_call_of 17 (Value.agg #[.slice a2 ps2.length cap2]); refine (toBoxO a2 cap2 ps2 _ (by with_reducible first | exact T | exact T.drew | exact T.alloc _ | exact (T.alloc _).drew) hl2).mono ?_; rintro e wx ⟨⟨avZj, cvZj, rfl, Zj⟩, hbx⟩; (with_reducible first | (have lN := N.ltb hbx; have N := N.later hbx) | (have lN := N.drew.ltb hbx; have N := N.drew.later hbx) | (have hpN := hz0; have lN := (Cel1.made _ _ rfl (.slice none 0 0) 29).ltb hbx; have N := (Cel1.made _ _ rfl (.slice none 0 0) 29).later hbx) | (have hpN := hz0; have lN := (Cel1.made _ _ rfl (.slice none 0 0) 29).drew.ltb hbx; have N := (Cel1.made _ _ rfl (.slice none 0 0) 29).drew.later hbx) | skip); (first | (have N0 := N.1; have N1 := N.2.1; have N2 := N.2.2; have Nn := Nat.ne_of_lt N2; have No := Nat.ne_of_gt N2) | skip); have hz0 : w2.heap.size ≤ wx.heap.size := Nat.le_trans hz0 (sz_le hbx (by first | exact Nat.le_refl _ | (simp; done))); have K := (by with_reducible first | exact K.later hbx | exact K.drew.later hbx | exact (K.alloc _).later hbx | exact (K.alloc _).drew.later hbx : Cel1 wx _ _); have K0 := K.1; have K2 := K.2.2; have Kn := Nat.ne_of_lt K2; have Ko := Nat.ne_of_gt K2; have M := (by with_reducible first | exact M.later hbx | exact M.drew.later hbx | exact (M.alloc _).later hbx | exact (M.alloc _).drew.later hbx : Cel1 wx _ _); have M0 := M.1; have M2 := M.2.2; have Mn := Nat.ne_of_lt M2; have Mo := Nat.ne_of_gt M2; have R := (by with_reducible first | exact R.old hbx | exact R.drew.old hbx | exact (R.alloc _).old hbx | exact (R.alloc _).drew.old hbx : InRow wx _ _ _ _); have T := (by with_reducible first | exact T.old hbx | exact T.drew.old hbx | exact (T.alloc _).old hbx | exact (T.alloc _).drew.old hbx : InRow wx _ _ _ _); have hB := (by with_reducible first | exact old_trans hB hbx | exact old_trans hB.drew hbx | exact old_trans (old_alloc hB _) hbx | exact old_trans (old_alloc hB _).drew hbx : Below w.heap.size w wx); (first | (have Zi := (by with_reducible first | exact Zi.later hbx | exact Zi.drew.later hbx | exact (Zi.alloc _).later hbx | exact (Zi.alloc _).drew.later hbx : OB wx _ _ _ _)) | skip)) | (go_at_call 22; refine (S.out _ _ _ _ _ _ _ (by with_reducible first | exact Zi.inRow | exact (Zi.drew).inRow | exact (Zi.alloc _).inRow | exact ((Zi.alloc _).drew).inRow) (by with_reducible first | exact Zj.inRow | exact (Zj.drew).inRow | exact (Zj.alloc _).inRow | exact ((Zj.alloc _).drew).inRow)).mono ?_; rintro e wx ⟨⟨avW, cvW, rfl, W⟩, hbx⟩; (with_reducible first | (have lN := N.ltb hbx; have N := N.later hbx) | (have lN := N.drew.ltb hbx; have N := N.drew.later hbx) | (have hpN := hz0; have lN := (Cel1.made _ _ rfl (.slice none 0 0) 29).ltb hbx; have N := (Cel1.made _ _ rfl (.slice none 0 0) 29).later hbx) | (have hpN := hz0; have lN := (Cel1.made _ _ rfl (.slice none 0 0) 29).drew.ltb hbx; have N := (Cel1.made _ _ rfl (.slice none 0 0) 29).drew.later hbx) | skip); (first | (have N0 := N.1; have N1 := N.2.1; have N2 := N.2.2; have Nn := Nat.ne_of_lt N2; have No := Nat.ne_of_gt N2) | skip); have gO := W.ge; have tO := W.lt; have W := W.mono (Nat.le_trans hz0 (by first | exact Nat.le_refl _ | (simp; done))); have hz0 : w2.heap.size ≤ wx.heap.size := Nat.le_trans hz0 (sz_le hbx (by first | exact Nat.le_refl _ | (simp; done))); have K := (by with_reducible first | exact K.later hbx | exact K.drew.later hbx | exact (K.alloc _).later hbx | exact (K.alloc _).drew.later hbx : Cel1 wx _ _); have K0 := K.1; have K2 := K.2.2; have Kn := Nat.ne_of_lt K2; have Ko := Nat.ne_of_gt K2; have M := (by with_reducible first | exact M.later hbx | exact M.drew.later hbx | exact (M.alloc _).later hbx | exact (M.alloc _).drew.later hbx : Cel1 wx _ _); have M0 := M.1; have M2 := M.2.2; have Mn := Nat.ne_of_lt M2; have Mo := Nat.ne_of_gt M2; have R := (by with_reducible first | exact R.old hbx | exact R.drew.old hbx | exact (R.alloc _).old hbx | exact (R.alloc _).drew.old hbx : InRow wx _ _ _ _); have T := (by with_reducible first | exact T.old hbx | exact T.drew.old hbx | exact (T.alloc _).old hbx | exact (T.alloc _).drew.old hbx : InRow wx _ _ _ _); have hB := (by with_reducible first | exact old_trans hB hbx | exact old_trans hB.drew hbx | exact old_trans (old_alloc hB _) hbx | exact old_trans (old_alloc hB _).drew hbx : Below w.heap.size w wx)))
    all_goals
      go_wp2_with fail
      go_meet
      first | exact ⟨_, _, _, rfl, rfl, N.set _, W.set _ (fun q e => Nat.ne_of_gt (Nat.lt_of_lt_of_le lN (gO q e))) _, hpN, K.aside _ (Nat.ne_of_lt (Nat.lt_of_lt_of_le l_K_W hpN)) _, M.aside _ (Nat.ne_of_lt (Nat.lt_of_lt_of_le l_M_W hpN)) _, R.set' _ _ (fun h0 q e => Nat.ne_of_lt (Nat.lt_of_lt_of_le (l_R_W h0 q e) hpN)), T.set' _ _ (fun h0 q e => Nat.ne_of_lt (Nat.lt_of_lt_of_le (l_T_W h0 q e) hpN)), Below.aside hB _ (Nat.le_trans n_W hpN) _⟩ | exact ⟨_, _, _, rfl, rfl, (Cel1.made _ _ rfl _ _).set _, (W.alloc _).set _ (fun q e => Nat.ne_of_lt (tO q e)) _, hz0, (K.alloc _).aside _ (Nat.ne_of_lt (Nat.lt_of_lt_of_le l_K_W hz0)) _, (M.alloc _).aside _ (Nat.ne_of_lt (Nat.lt_of_lt_of_le l_M_W hz0)) _, (R.alloc _).set' _ _ (fun h0 q e => Nat.ne_of_lt (Nat.lt_of_lt_of_le (l_R_W h0 q e) hz0)), (T.alloc _).set' _ _ (fun h0 q e => Nat.ne_of_lt (Nat.lt_of_lt_of_le (l_T_W h0 q e) hz0)), Below.aside (old_alloc hB _) _ (Nat.le_trans n_W hz0) _⟩ | exact ⟨_, _, _, rfl, rfl, Cel1.made _ _ rfl _ _, W.alloc _, hz0, K.alloc _, M.alloc _, R.alloc _, T.alloc _, old_alloc hB _⟩
  case rest =>
    clear K0 K2 M0 M2
    clear K M R T hB
    obtain ⟨wc1, rfl⟩ : ∃ x, x = wc := ⟨_, rfl⟩
    obtain ⟨pbW, avW, cvW, rfl, rfl, Wc, W, hpW, K, M, R, T, hB⟩ := hcut
    have K0 := K.1
    have K2 := K.2.2
    have M0 := M.1
    have M2 := M.2.2
    clear K0 K2 M0 M2
    have K0 := K.1
    have K2 := K.2.2
    have M0 := M.1
    have M2 := M.2.2
    have Wc0 := Wc.1
    have Wc2 := Wc.2.2
    go_wp2_with fail
    refine (toBoxO a1 cap1 ps1 _ (by with_reducible first | exact R | exact R.alloc _) hl1).mono ?_
    rintro e w13 ⟨⟨avX, cvX, rfl, X⟩, hb13⟩
    clear K0 K2 M0 M2 Wc0 Wc2
    with_reducible (first | (have l_K_X := K.ltb hb13) | (have l_K_X := (K.alloc _).ltb hb13))
    with_reducible (first | (have l_M_X := M.ltb hb13) | (have l_M_X := (M.alloc _).ltb hb13))
    with_reducible (first | (have l_Wc_X := Wc.ltb hb13) | (have l_Wc_X := (Wc.alloc _).ltb hb13))
    with_reducible (first | (have l_W_X := W.ltb hb13) | (have l_W_X := (W.alloc _).ltb hb13))
    with_reducible (first | (have l_R_X := R.ltb hb13) | (have l_R_X := (R.alloc _).ltb hb13))
    with_reducible (first | (have l_T_X := T.ltb hb13) | (have l_T_X := (T.alloc _).ltb hb13))
    with_reducible (first | (have n_X := Below.ltb hB hb13) | (have n_X := Below.ltb (old_alloc hB _) hb13))
    replace K := (by with_reducible first | exact K.later hb13 | exact (K.alloc _).later hb13 : Cel1 w13 _ _)
    replace M := (by with_reducible first | exact M.later hb13 | exact (M.alloc _).later hb13 : Cel1 w13 _ _)
    replace Wc := (by with_reducible first | exact Wc.later hb13 | exact (Wc.alloc _).later hb13 : Cel1 w13 _ _)
    replace W := (by with_reducible first | exact W.later hb13 | exact (W.alloc _).later hb13 : OB w13 _ _ _ _)
    replace R := (by with_reducible first | exact R.old hb13 | exact (R.alloc _).old hb13 : InRow w13 _ _ _ _)
    replace T := (by with_reducible first | exact T.old hb13 | exact (T.alloc _).old hb13 : InRow w13 _ _ _ _)
    replace hB := (by with_reducible first | exact old_trans hB hb13 | exact old_trans (old_alloc hB _) hb13 : Below w.heap.size w w13)
    have K0 := K.1
    have K2 := K.2.2
    have M0 := M.1
    have M2 := M.2.2
    have Wc0 := Wc.1
    have Wc2 := Wc.2.2
    have Xc : Cel1 (w13.alloc (.cells #[.slice avX ps1.length cvX] 29)) w13.heap.size (.slice avX ps1.length cvX) := Cel1.made _ _ rfl _ _
    have y_W_Xc := W.lt
    have y_X_Xc := X.lt
    go_wp2_with fail
    refine (toBoxO a2 cap2 ps2 _ (by with_reducible first | exact T | exact T.alloc _) hl2).mono ?_
    rintro e w14 ⟨⟨avY, cvY, rfl, Y⟩, hb14⟩
    clear K0 K2 M0 M2 Wc0 Wc2
    with_reducible (first | (have l_K_Y := K.ltb hb14) | (have l_K_Y := (K.alloc _).ltb hb14))
    with_reducible (first | (have l_M_Y := M.ltb hb14) | (have l_M_Y := (M.alloc _).ltb hb14))
    with_reducible (first | (have l_Wc_Y := Wc.ltb hb14) | (have l_Wc_Y := (Wc.alloc _).ltb hb14))
    with_reducible (first | (have l_W_Y := W.ltb hb14) | (have l_W_Y := (W.alloc _).ltb hb14))
    with_reducible (first | (have l_X_Y := X.ltb hb14) | (have l_X_Y := (X.alloc _).ltb hb14))
    with_reducible (first | (have l_R_Y := R.ltb hb14) | (have l_R_Y := (R.alloc _).ltb hb14))
    with_reducible (first | (have l_T_Y := T.ltb hb14) | (have l_T_Y := (T.alloc _).ltb hb14))
    with_reducible (first | (have l_Xc_Y := Xc.ltb hb14))
    with_reducible (first | (have n_Y := Below.ltb hB hb14) | (have n_Y := Below.ltb (old_alloc hB _) hb14))
    replace K := (by with_reducible first | exact K.later hb14 | exact (K.alloc _).later hb14 : Cel1 w14 _ _)
    replace M := (by with_reducible first | exact M.later hb14 | exact (M.alloc _).later hb14 : Cel1 w14 _ _)
    replace Wc := (by with_reducible first | exact Wc.later hb14 | exact (Wc.alloc _).later hb14 : Cel1 w14 _ _)
    replace W := (by with_reducible first | exact W.later hb14 | exact (W.alloc _).later hb14 : OB w14 _ _ _ _)
    replace X := (by with_reducible first | exact X.later hb14 | exact (X.alloc _).later hb14 : OB w14 _ _ _ _)
    replace R := (by with_reducible first | exact R.old hb14 | exact (R.alloc _).old hb14 : InRow w14 _ _ _ _)
    replace T := (by with_reducible first | exact T.old hb14 | exact (T.alloc _).old hb14 : InRow w14 _ _ _ _)
    replace hB := (by with_reducible first | exact old_trans hB hb14 | exact old_trans (old_alloc hB _) hb14 : Below w.heap.size w w14)
    replace Xc := Xc.later hb14
    have K0 := K.1
    have K2 := K.2.2
    have M0 := M.1
    have M2 := M.2.2
    have Wc0 := Wc.1
    have Wc2 := Wc.2.2
    have Xc0 := Xc.1
    have Xc2 := Xc.2.2
    have Yc : Cel1 (w14.alloc (.cells #[.slice avY ps2.length cvY] 29)) w14.heap.size (.slice avY ps2.length cvY) := Cel1.made _ _ rfl _ _
    have y_W_Yc := W.lt
    have y_X_Yc := X.lt
    have y_Y_Yc := Y.lt
    go_wp2_with fail
    refine (I.out _ _ _ _ _ _ _ (X.alloc _).inRow (Y.alloc _).inRow).mono ?_
    rintro e w15 ⟨⟨avG, cvG, rfl, G⟩, hb15⟩
    clear K0 K2 M0 M2 Wc0 Wc2 Xc0 Xc2
    with_reducible (first | (have l_K_G := K.ltb hb15) | (have l_K_G := (K.alloc _).ltb hb15))
    with_reducible (first | (have l_M_G := M.ltb hb15) | (have l_M_G := (M.alloc _).ltb hb15))
    with_reducible (first | (have l_Wc_G := Wc.ltb hb15) | (have l_Wc_G := (Wc.alloc _).ltb hb15))
    with_reducible (first | (have l_Xc_G := Xc.ltb hb15) | (have l_Xc_G := (Xc.alloc _).ltb hb15))
    with_reducible (first | (have l_W_G := W.ltb hb15) | (have l_W_G := (W.alloc _).ltb hb15))
    with_reducible (first | (have l_X_G := X.ltb hb15) | (have l_X_G := (X.alloc _).ltb hb15))
    with_reducible (first | (have l_Y_G := Y.ltb hb15) | (have l_Y_G := (Y.alloc _).ltb hb15))
    with_reducible (first | (have l_R_G := R.ltb hb15) | (have l_R_G := (R.alloc _).ltb hb15))
    with_reducible (first | (have l_T_G := T.ltb hb15) | (have l_T_G := (T.alloc _).ltb hb15))
    with_reducible (first | (have l_Yc_G := Yc.ltb hb15))
    with_reducible (first | (have n_G := Below.ltb hB hb15) | (have n_G := Below.ltb (old_alloc hB _) hb15))
    replace K := (by with_reducible first | exact K.later hb15 | exact (K.alloc _).later hb15 : Cel1 w15 _ _)
    replace M := (by with_reducible first | exact M.later hb15 | exact (M.alloc _).later hb15 : Cel1 w15 _ _)
    replace Wc := (by with_reducible first | exact Wc.later hb15 | exact (Wc.alloc _).later hb15 : Cel1 w15 _ _)
    replace Xc := (by with_reducible first | exact Xc.later hb15 | exact (Xc.alloc _).later hb15 : Cel1 w15 _ _)
    replace W := (by with_reducible first | exact W.later hb15 | exact (W.alloc _).later hb15 : OB w15 _ _ _ _)
    replace X := (by with_reducible first | exact X.later hb15 | exact (X.alloc _).later hb15 : OB w15 _ _ _ _)
    replace Y := (by with_reducible first | exact Y.later hb15 | exact (Y.alloc _).later hb15 : OB w15 _ _ _ _)
    replace R := (by with_reducible first | exact R.old hb15 | exact (R.alloc _).old hb15 : InRow w15 _ _ _ _)
    replace T := (by with_reducible first | exact T.old hb15 | exact (T.alloc _).old hb15 : InRow w15 _ _ _ _)
    replace hB := (by with_reducible first | exact old_trans hB hb15 | exact old_trans (old_alloc hB _) hb15 : Below w.heap.size w w15)
    replace Yc := Yc.later hb15
    have K0 := K.1
    have K2 := K.2.2
    have M0 := M.1
    have M2 := M.2.2
    have Wc0 := Wc.1
    have Wc2 := Wc.2.2
    have Xc0 := Xc.1
    have Xc2 := Xc.2.2
    have Yc0 := Yc.1
    have Yc2 := Yc.2.2
    have Gc : Cel1 (w15.alloc (.cells #[.slice avG ql.length cvG] 29)) w15.heap.size (.slice avG ql.length cvG) := Cel1.made _ _ rfl _ _
    have y_W_Gc := W.lt
    have y_X_Gc := X.lt
    have y_Y_Gc := Y.lt
    have y_G_Gc := G.lt
    go_wp2_with fail
    refine (lEqO avG avW cvG cvW _ _ ql _ (by with_reducible first | exact G | exact G.alloc _) (by with_reducible first | exact W | exact W.alloc _)).mono ?_
    rintro e w16 ⟨rfl, hb16⟩
    clear K0 K2 M0 M2 Wc0 Wc2 Xc0 Xc2 Yc0 Yc2
    replace K := (by with_reducible first | exact K.later hb16 | exact (K.alloc _).later hb16 : Cel1 w16 _ _)
    replace M := (by with_reducible first | exact M.later hb16 | exact (M.alloc _).later hb16 : Cel1 w16 _ _)
    replace Wc := (by with_reducible first | exact Wc.later hb16 | exact (Wc.alloc _).later hb16 : Cel1 w16 _ _)
    replace Xc := (by with_reducible first | exact Xc.later hb16 | exact (Xc.alloc _).later hb16 : Cel1 w16 _ _)
    replace Yc := (by with_reducible first | exact Yc.later hb16 | exact (Yc.alloc _).later hb16 : Cel1 w16 _ _)
    replace W := (by with_reducible first | exact W.later hb16 | exact (W.alloc _).later hb16 : OB w16 _ _ _ _)
    replace X := (by with_reducible first | exact X.later hb16 | exact (X.alloc _).later hb16 : OB w16 _ _ _ _)
    replace Y := (by with_reducible first | exact Y.later hb16 | exact (Y.alloc _).later hb16 : OB w16 _ _ _ _)
    replace G := (by with_reducible first | exact G.later hb16 | exact (G.alloc _).later hb16 : OB w16 _ _ _ _)
    replace R := (by with_reducible first | exact R.old hb16 | exact (R.alloc _).old hb16 : InRow w16 _ _ _ _)
    replace T := (by with_reducible first | exact T.old hb16 | exact (T.alloc _).old hb16 : InRow w16 _ _ _ _)
    replace hB := (by with_reducible first | exact old_trans hB hb16 | exact old_trans (old_alloc hB _) hb16 : Below w.heap.size w w16)
    replace Gc := Gc.later hb16
    have K0 := K.1
    have K2 := K.2.2
    have M0 := M.1
    have M2 := M.2.2
    have Wc0 := Wc.1
    have Wc2 := Wc.2.2
    have Xc0 := Xc.1
    have Xc2 := Xc.2.2
    have Yc0 := Yc.1
    have Yc2 := Yc.2.2
    have Gc0 := Gc.1
    have Gc2 := Gc.2.2
    go_upto_region 14 with fail
    go_cut [62] (fun s wx => s = .bool false ∧ Cel1 wx w.heap.size (.slice a1 ps1.length cap1) ∧ Cel1 wx (w.heap.size + 1) (.slice a2 ps2.length cap2) ∧ Cel1 wx pbW (.slice avW ql.length cvW) ∧ Cel1 wx w13.heap.size (.slice avX ps1.length cvX) ∧ Cel1 wx w14.heap.size (.slice avY ps2.length cvY) ∧ Cel1 wx w15.heap.size (.slice avG ql.length cvG) ∧ OB wx w2.heap.size avW cvW ql ∧ OB wx wc1.heap.size avX cvX ps1 ∧ OB wx (w13.alloc (.cells #[.slice avX ps1.length cvX] 29)).heap.size avY cvY ps2 ∧ OB wx (w14.alloc (.cells #[.slice avY ps2.length cvY] 29)).heap.size avG cvG ql ∧ InRow wx a1 ps1.length cap1 ps1 ∧ InRow wx a2 ps2.length cap2 ps2 ∧ Below w.heap.size w wx)
    case first =>
      go_wp2_with fail
      go_region_with (first | (go_at_call 17; refine (toBoxO a1 cap1 ps1 _ (by with_reducible first | exact R | exact R.drew | exact R.alloc _ | exact (R.alloc _).drew) hl1).mono ?_; rintro e wx ⟨⟨avZ, cvZ, rfl, Z⟩, hbx⟩; have K := (by with_reducible first | exact K.later hbx | exact K.drew.later hbx | exact (K.alloc _).later hbx | exact (K.alloc _).drew.later hbx : Cel1 wx _ _); have K0 := K.1; have K2 := K.2.2; have Kn := Nat.ne_of_lt K2; have Ko := Nat.ne_of_gt K2; have M := (by with_reducible first | exact M.later hbx | exact M.drew.later hbx | exact (M.alloc _).later hbx | exact (M.alloc _).drew.later hbx : Cel1 wx _ _); have M0 := M.1; have M2 := M.2.2; have Mn := Nat.ne_of_lt M2; have Mo := Nat.ne_of_gt M2; have Wc := (by with_reducible first | exact Wc.later hbx | exact Wc.drew.later hbx | exact (Wc.alloc _).later hbx | exact (Wc.alloc _).drew.later hbx : Cel1 wx _ _); have Wc0 := Wc.1; have Wc2 := Wc.2.2; have Wcn := Nat.ne_of_lt Wc2; have Wco := Nat.ne_of_gt Wc2; have Xc := (by with_reducible first | exact Xc.later hbx | exact Xc.drew.later hbx | exact (Xc.alloc _).later hbx | exact (Xc.alloc _).drew.later hbx : Cel1 wx _ _); have Xc0 := Xc.1; have Xc2 := Xc.2.2; have Xcn := Nat.ne_of_lt Xc2; have Xco := Nat.ne_of_gt Xc2; have Yc := (by with_reducible first | exact Yc.later hbx | exact Yc.drew.later hbx | exact (Yc.alloc _).later hbx | exact (Yc.alloc _).drew.later hbx : Cel1 wx _ _); have Yc0 := Yc.1; have Yc2 := Yc.2.2; have Ycn := Nat.ne_of_lt Yc2; have Yco := Nat.ne_of_gt Yc2; have Gc := (by with_reducible first | exact Gc.later hbx | exact Gc.drew.later hbx | exact (Gc.alloc _).later hbx | exact (Gc.alloc _).drew.later hbx : Cel1 wx _ _); have Gc0 := Gc.1; have Gc2 := Gc.2.2; have Gcn := Nat.ne_of_lt Gc2; have Gco := Nat.ne_of_gt Gc2; have W := (by with_reducible first | exact W.later hbx | exact W.drew.later hbx | exact (W.alloc _).later hbx | exact (W.alloc _).drew.later hbx : OB wx _ _ _ _); have X := (by with_reducible first | exact X.later hbx | exact X.drew.later hbx | exact (X.alloc _).later hbx | exact (X.alloc _).drew.later hbx : OB wx _ _ _ _); have Y := (by with_reducible first | exact Y.later hbx | exact Y.drew.later hbx | exact (Y.alloc _).later hbx | exact (Y.alloc _).drew.later hbx : OB wx _ _ _ _); have G := (by with_reducible first | exact G.later hbx | exact G.drew.later hbx | exact (G.alloc _).later hbx | exact (G.alloc _).drew.later hbx : OB wx _ _ _ _); have R := (by with_reducible first | exact R.old hbx | exact R.drew.old hbx | exact (R.alloc _).old hbx | exact (R.alloc _).drew.old hbx : InRow wx _ _ _ _); have T := (by with_reducible first | exact T.old hbx | exact T.drew.old hbx | exact (T.alloc _).old hbx | exact (T.alloc _).drew.old hbx : InRow wx _ _ _ _); have hB := (by with_reducible first | exact old_trans hB hbx | exact old_trans hB.drew hbx | exact old_trans (old_alloc hB _) hbx | exact old_trans (old_alloc hB _).drew hbx : Below w.heap.size w wx)) | (go_at_call 19; refine (lEqO avX avZ cvX cvZ _ _ ps1 _ (by with_reducible first | exact X | exact X.drew | exact X.alloc _ | exact (X.alloc _).drew) (by with_reducible first | exact Z | exact Z.drew | exact Z.alloc _ | exact (Z.alloc _).drew)).mono ?_; rintro e wy ⟨rfl, hby⟩; have K := (by with_reducible first | exact K.later hby | exact K.drew.later hby | exact (K.alloc _).later hby | exact (K.alloc _).drew.later hby : Cel1 wy _ _); have K0 := K.1; have K2 := K.2.2; have Kn := Nat.ne_of_lt K2; have Ko := Nat.ne_of_gt K2; have M := (by with_reducible first | exact M.later hby | exact M.drew.later hby | exact (M.alloc _).later hby | exact (M.alloc _).drew.later hby : Cel1 wy _ _); have M0 := M.1; have M2 := M.2.2; have Mn := Nat.ne_of_lt M2; have Mo := Nat.ne_of_gt M2; have Wc := (by with_reducible first | exact Wc.later hby | exact Wc.drew.later hby | exact (Wc.alloc _).later hby | exact (Wc.alloc _).drew.later hby : Cel1 wy _ _); have Wc0 := Wc.1; have Wc2 := Wc.2.2; have Wcn := Nat.ne_of_lt Wc2; have Wco := Nat.ne_of_gt Wc2; have Xc := (by with_reducible first | exact Xc.later hby | exact Xc.drew.later hby | exact (Xc.alloc _).later hby | exact (Xc.alloc _).drew.later hby : Cel1 wy _ _); have Xc0 := Xc.1; have Xc2 := Xc.2.2; have Xcn := Nat.ne_of_lt Xc2; have Xco := Nat.ne_of_gt Xc2; have Yc := (by with_reducible first | exact Yc.later hby | exact Yc.drew.later hby | exact (Yc.alloc _).later hby | exact (Yc.alloc _).drew.later hby : Cel1 wy _ _); have Yc0 := Yc.1; have Yc2 := Yc.2.2; have Ycn := Nat.ne_of_lt Yc2; have Yco := Nat.ne_of_gt Yc2; have Gc := (by with_reducible first | exact Gc.later hby | exact Gc.drew.later hby | exact (Gc.alloc _).later hby | exact (Gc.alloc _).drew.later hby : Cel1 wy _ _); have Gc0 := Gc.1; have Gc2 := Gc.2.2; have Gcn := Nat.ne_of_lt Gc2; have Gco := Nat.ne_of_gt Gc2; have W := (by with_reducible first | exact W.later hby | exact W.drew.later hby | exact (W.alloc _).later hby | exact (W.alloc _).drew.later hby : OB wy _ _ _ _); have X := (by with_reducible first | exact X.later hby | exact X.drew.later hby | exact (X.alloc _).later hby | exact (X.alloc _).drew.later hby : OB wy _ _ _ _); have Y := (by with_reducible first | exact Y.later hby | exact Y.drew.later hby | exact (Y.alloc _).later hby | exact (Y.alloc _).drew.later hby : OB wy _ _ _ _); have G := (by with_reducible first | exact G.later hby | exact G.drew.later hby | exact (G.alloc _).later hby | exact (G.alloc _).drew.later hby : OB wy _ _ _ _); have R := (by with_reducible first | exact R.old hby | exact R.drew.old hby | exact (R.alloc _).old hby | exact (R.alloc _).drew.old hby : InRow wy _ _ _ _); have T := (by with_reducible first | exact T.old hby | exact T.drew.old hby | exact (T.alloc _).old hby | exact (T.alloc _).drew.old hby : InRow wy _ _ _ _); have hB := (by with_reducible first | exact old_trans hB hby | exact old_trans hB.drew hby | exact old_trans (old_alloc hB _) hby | exact old_trans (old_alloc hB _).drew hby : Below w.heap.size w wy)))
      all_goals
        go_wp2_with fail
        go_meet
        exact ⟨rfl, K, M, Wc, Xc, Yc, Gc, W, X, Y, G, R, T, hB⟩
    case rest =>
      clear K0 K2 M0 M2 Wc0 Wc2 Xc0 Xc2 Yc0 Yc2 Gc0 Gc2
      clear K M Wc Xc Yc Gc W X Y G R T hB
      obtain ⟨wc2, rfl⟩ : ∃ x, x = wc := ⟨_, rfl⟩
      obtain ⟨rfl, K, M, Wc, Xc, Yc, Gc, W, X, Y, G, R, T, hB⟩ := hcut
      have K0 := K.1
      have K2 := K.2.2
      have M0 := M.1
      have M2 := M.2.2
      have Wc0 := Wc.1
      have Wc2 := Wc.2.2
      have Xc0 := Xc.1
      have Xc2 := Xc.2.2
      have Yc0 := Yc.1
      have Yc2 := Yc.2.2
      have Gc0 := Gc.1
      have Gc2 := Gc.2.2
      go_upto_region 16 with fail
      go_cut [67] (fun s wx => s = .bool false ∧ Cel1 wx w.heap.size (.slice a1 ps1.length cap1) ∧ Cel1 wx (w.heap.size + 1) (.slice a2 ps2.length cap2) ∧ Cel1 wx pbW (.slice avW ql.length cvW) ∧ Cel1 wx w13.heap.size (.slice avX ps1.length cvX) ∧ Cel1 wx w14.heap.size (.slice avY ps2.length cvY) ∧ Cel1 wx w15.heap.size (.slice avG ql.length cvG) ∧ OB wx w2.heap.size avW cvW ql ∧ OB wx wc1.heap.size avX cvX ps1 ∧ OB wx (w13.alloc (.cells #[.slice avX ps1.length cvX] 29)).heap.size avY cvY ps2 ∧ OB wx (w14.alloc (.cells #[.slice avY ps2.length cvY] 29)).heap.size avG cvG ql ∧ InRow wx a1 ps1.length cap1 ps1 ∧ InRow wx a2 ps2.length cap2 ps2 ∧ Below w.heap.size w wx)
      case first =>
        go_wp2_with fail
        go_region_with (first | (go_at_call 17; refine (toBoxO a2 cap2 ps2 _ (by with_reducible first | exact T | exact T.drew | exact T.alloc _ | exact (T.alloc _).drew) hl2).mono ?_; rintro e wx ⟨⟨avZ, cvZ, rfl, Z⟩, hbx⟩; have K := (by with_reducible first | exact K.later hbx | exact K.drew.later hbx | exact (K.alloc _).later hbx | exact (K.alloc _).drew.later hbx : Cel1 wx _ _); have K0 := K.1; have K2 := K.2.2; have Kn := Nat.ne_of_lt K2; have Ko := Nat.ne_of_gt K2; have M := (by with_reducible first | exact M.later hbx | exact M.drew.later hbx | exact (M.alloc _).later hbx | exact (M.alloc _).drew.later hbx : Cel1 wx _ _); have M0 := M.1; have M2 := M.2.2; have Mn := Nat.ne_of_lt M2; have Mo := Nat.ne_of_gt M2; have Wc := (by with_reducible first | exact Wc.later hbx | exact Wc.drew.later hbx | exact (Wc.alloc _).later hbx | exact (Wc.alloc _).drew.later hbx : Cel1 wx _ _); have Wc0 := Wc.1; have Wc2 := Wc.2.2; have Wcn := Nat.ne_of_lt Wc2; have Wco := Nat.ne_of_gt Wc2; have Xc := (by with_reducible first | exact Xc.later hbx | exact Xc.drew.later hbx | exact (Xc.alloc _).later hbx | exact (Xc.alloc _).drew.later hbx : Cel1 wx _ _); have Xc0 := Xc.1; have Xc2 := Xc.2.2; have Xcn := Nat.ne_of_lt Xc2; have Xco := Nat.ne_of_gt Xc2; have Yc := (by with_reducible first | exact Yc.later hbx | exact Yc.drew.later hbx | exact (Yc.alloc _).later hbx | exact (Yc.alloc _).drew.later hbx : Cel1 wx _ _); have Yc0 := Yc.1; have Yc2 := Yc.2.2; have Ycn := Nat.ne_of_lt Yc2; have Yco := Nat.ne_of_gt Yc2; have Gc := (by with_reducible first | exact Gc.later hbx | exact Gc.drew.later hbx | exact (Gc.alloc _).later hbx | exact (Gc.alloc _).drew.later hbx : Cel1 wx _ _); have Gc0 := Gc.1; have Gc2 := Gc.2.2; have Gcn := Nat.ne_of_lt Gc2; have Gco := Nat.ne_of_gt Gc2; have W := (by with_reducible first | exact W.later hbx | exact W.drew.later hbx | exact (W.alloc _).later hbx | exact (W.alloc _).drew.later hbx : OB wx _ _ _ _); have X := (by with_reducible first | exact X.later hbx | exact X.drew.later hbx | exact (X.alloc _).later hbx | exact (X.alloc _).drew.later hbx : OB wx _ _ _ _); have Y := (by with_reducible first | exact Y.later hbx | exact Y.drew.later hbx | exact (Y.alloc _).later hbx | exact (Y.alloc _).drew.later hbx : OB wx _ _ _ _); have G := (by with_reducible first | exact G.later hbx | exact G.drew.later hbx | exact (G.alloc _).later hbx | exact (G.alloc _).drew.later hbx : OB wx _ _ _ _); have R := (by with_reducible first | exact R.old hbx | exact R.drew.old hbx | exact (R.alloc _).old hbx | exact (R.alloc _).drew.old hbx : InRow wx _ _ _ _); have T := (by with_reducible first | exact T.old hbx | exact T.drew.old hbx | exact (T.alloc _).old hbx | exact (T.alloc _).drew.old hbx : InRow wx _ _ _ _); have hB := (by with_reducible first | exact old_trans hB hbx | exact old_trans hB.drew hbx | exact old_trans (old_alloc hB _) hbx | exact old_trans (old_alloc hB _).drew hbx : Below w.heap.size w wx)) | (go_at_call 19; refine (lEqO avY avZ cvY cvZ _ _ ps2 _ (by with_reducible first | exact Y | exact Y.drew | exact Y.alloc _ | exact (Y.alloc _).drew) (by with_reducible first | exact Z | exact Z.drew | exact Z.alloc _ | exact (Z.alloc _).drew)).mono ?_; rintro e wy ⟨rfl, hby⟩; have K := (by with_reducible first | exact K.later hby | exact K.drew.later hby | exact (K.alloc _).later hby | exact (K.alloc _).drew.later hby : Cel1 wy _ _); have K0 := K.1; have K2 := K.2.2; have Kn := Nat.ne_of_lt K2; have Ko := Nat.ne_of_gt K2; have M := (by with_reducible first | exact M.later hby | exact M.drew.later hby | exact (M.alloc _).later hby | exact (M.alloc _).drew.later hby : Cel1 wy _ _); have M0 := M.1; have M2 := M.2.2; have Mn := Nat.ne_of_lt M2; have Mo := Nat.ne_of_gt M2; have Wc := (by with_reducible first | exact Wc.later hby | exact Wc.drew.later hby | exact (Wc.alloc _).later hby | exact (Wc.alloc _).drew.later hby : Cel1 wy _ _); have Wc0 := Wc.1; have Wc2 := Wc.2.2; have Wcn := Nat.ne_of_lt Wc2; have Wco := Nat.ne_of_gt Wc2; have Xc := (by with_reducible first | exact Xc.later hby | exact Xc.drew.later hby | exact (Xc.alloc _).later hby | exact (Xc.alloc _).drew.later hby : Cel1 wy _ _); have Xc0 := Xc.1; have Xc2 := Xc.2.2; have Xcn := Nat.ne_of_lt Xc2; have Xco := Nat.ne_of_gt Xc2; have Yc := (by with_reducible first | exact Yc.later hby | exact Yc.drew.later hby | exact (Yc.alloc _).later hby | exact (Yc.alloc _).drew.later hby : Cel1 wy _ _); have Yc0 := Yc.1; have Yc2 := Yc.2.2; have Ycn := Nat.ne_of_lt Yc2; have Yco := Nat.ne_of_gt Yc2; have Gc := (by with_reducible first | exact Gc.later hby | exact Gc.drew.later hby | exact (Gc.alloc _).later hby | exact (Gc.alloc _).drew.later hby : Cel1 wy _ _); have Gc0 := Gc.1; have Gc2 := Gc.2.2; have Gcn := Nat.ne_of_lt Gc2; have Gco := Nat.ne_of_gt Gc2; have W := (by with_reducible first | exact W.later hby | exact W.drew.later hby | exact (W.alloc _).later hby | exact (W.alloc _).drew.later hby : OB wy _ _ _ _); have X := (by with_reducible first | exact X.later hby | exact X.drew.later hby | exact (X.alloc _).later hby | exact (X.alloc _).drew.later hby : OB wy _ _ _ _); have Y := (by with_reducible first | exact Y.later hby | exact Y.drew.later hby | exact (Y.alloc _).later hby | exact (Y.alloc _).drew.later hby : OB wy _ _ _ _); have G := (by with_reducible first | exact G.later hby | exact G.drew.later hby | exact (G.alloc _).later hby | exact (G.alloc _).drew.later hby : OB wy _ _ _ _); have R := (by with_reducible first | exact R.old hby | exact R.drew.old hby | exact (R.alloc _).old hby | exact (R.alloc _).drew.old hby : InRow wy _ _ _ _); have T := (by with_reducible first | exact T.old hby | exact T.drew.old hby | exact (T.alloc _).old hby | exact (T.alloc _).drew.old hby : InRow wy _ _ _ _); have hB := (by with_reducible first | exact old_trans hB hby | exact old_trans hB.drew hby | exact old_trans (old_alloc hB _) hby | exact old_trans (old_alloc hB _).drew hby : Below w.heap.size w wy)))
        all_goals
          go_wp2_with fail
          go_meet
          exact ⟨rfl, K, M, Wc, Xc, Yc, Gc, W, X, Y, G, R, T, hB⟩
      case rest =>
        clear K0 K2 M0 M2 Wc0 Wc2 Xc0 Xc2 Yc0 Yc2 Gc0 Gc2
        clear K M Wc Xc Yc Gc W X Y G R T hB
        obtain ⟨wc3, rfl⟩ : ∃ x, x = wc := ⟨_, rfl⟩
        obtain ⟨rfl, K, M, Wc, Xc, Yc, Gc, W, X, Y, G, R, T, hB⟩ := hcut
        have K0 := K.1
        have K2 := K.2.2
        have M0 := M.1
        have M2 := M.2.2
        have Wc0 := Wc.1
        have Wc2 := Wc.2.2
        have Xc0 := Xc.1
        have Xc2 := Xc.2.2
        have Yc0 := Yc.1
        have Yc2 := Yc.2.2
        have Gc0 := Gc.1
        have Gc2 := Gc.2.2
        go_wp2_with fail
        refine (lMarkO _ avX cvX ps1 (1) _ X hl1 (by omega) (by omega)).mono ?_
        rintro e w37 ⟨rfl, X', hg37⟩
        clear K0 K2 M0 M2 Wc0 Wc2 Xc0 Xc2 Yc0 Yc2 Gc0 Gc2
        replace K := K.kept hg37 (X.ne_old l_K_X)
        replace M := M.kept hg37 (X.ne_old l_M_X)
        replace Wc := Wc.kept hg37 (X.ne_old l_Wc_X)
        replace Xc := Xc.kept hg37 (ne_young y_X_Xc)
        replace Yc := Yc.kept hg37 (ne_young y_X_Yc)
        replace Gc := Gc.kept hg37 (ne_young y_X_Gc)
        replace W := W.kept hg37 (X.sep l_W_X)
        replace Y := Y.kept hg37 (Y.sep' l_X_Y)
        replace G := G.kept hg37 (G.sep' l_X_G)
        replace R := R.kept' hg37 (fun h0 => X.sep (l_R_X h0))
        replace T := T.kept' hg37 (fun h0 => X.sep (l_T_X h0))
        replace hB := Below.marked hB X hg37 n_X hB.size
        clear X
        have X := X'
        clear X'
        have K0 := K.1
        have K2 := K.2.2
        have M0 := M.1
        have M2 := M.2.2
        have Wc0 := Wc.1
        have Wc2 := Wc.2.2
        have Xc0 := Xc.1
        have Xc2 := Xc.2.2
        have Yc0 := Yc.1
        have Yc2 := Yc.2.2
        have Gc0 := Gc.1
        have Gc2 := Gc.2.2
        go_wp2_with fail
        refine (lMarkO _ avY cvY ps2 (1 + 2 * (ps1.length : Int)) _ Y hl2 (by omega) (by omega)).mono ?_
        rintro e w38 ⟨rfl, Y', hg38⟩
        clear K0 K2 M0 M2 Wc0 Wc2 Xc0 Xc2 Yc0 Yc2 Gc0 Gc2
        replace K := K.kept hg38 (Y.ne_old l_K_Y)
        replace M := M.kept hg38 (Y.ne_old l_M_Y)
        replace Wc := Wc.kept hg38 (Y.ne_old l_Wc_Y)
        replace Xc := Xc.kept hg38 (Y.ne_old l_Xc_Y)
        replace Yc := Yc.kept hg38 (ne_young y_Y_Yc)
        replace Gc := Gc.kept hg38 (ne_young y_Y_Gc)
        replace W := W.kept hg38 (Y.sep l_W_Y)
        replace X := X.kept hg38 (Y.sep l_X_Y)
        replace G := G.kept hg38 (G.sep' l_Y_G)
        replace R := R.kept' hg38 (fun h0 => Y.sep (l_R_Y h0))
        replace T := T.kept' hg38 (fun h0 => Y.sep (l_T_Y h0))
        replace hB := Below.marked hB Y hg38 n_Y hB.size
        clear Y
        have Y := Y'
        clear Y'
        have K0 := K.1
        have K2 := K.2.2
        have M0 := M.1
        have M2 := M.2.2
        have Wc0 := Wc.1
        have Wc2 := Wc.2.2
        have Xc0 := Xc.1
        have Xc2 := Xc.2.2
        have Yc0 := Yc.1
        have Yc2 := Yc.2.2
        have Gc0 := Gc.1
        have Gc2 := Gc.2.2
        go_wp2_with fail
        refine (lEqO avG avW cvG cvW _ _ ql _ G W).mono ?_
        rintro e w39 ⟨rfl, hb39⟩
        clear K0 K2 M0 M2 Wc0 Wc2 Xc0 Xc2 Yc0 Yc2 Gc0 Gc2
        replace K := (by with_reducible first | exact K.later hb39 | exact (K.alloc _).later hb39 : Cel1 w39 _ _)
        replace M := (by with_reducible first | exact M.later hb39 | exact (M.alloc _).later hb39 : Cel1 w39 _ _)
        replace Wc := (by with_reducible first | exact Wc.later hb39 | exact (Wc.alloc _).later hb39 : Cel1 w39 _ _)
        replace Xc := (by with_reducible first | exact Xc.later hb39 | exact (Xc.alloc _).later hb39 : Cel1 w39 _ _)
        replace Yc := (by with_reducible first | exact Yc.later hb39 | exact (Yc.alloc _).later hb39 : Cel1 w39 _ _)
        replace Gc := (by with_reducible first | exact Gc.later hb39 | exact (Gc.alloc _).later hb39 : Cel1 w39 _ _)
        replace W := (by with_reducible first | exact W.later hb39 | exact (W.alloc _).later hb39 : OB w39 _ _ _ _)
        replace X := (by with_reducible first | exact X.later hb39 | exact (X.alloc _).later hb39 : OB w39 _ _ _ _)
        replace Y := (by with_reducible first | exact Y.later hb39 | exact (Y.alloc _).later hb39 : OB w39 _ _ _ _)
        replace G := (by with_reducible first | exact G.later hb39 | exact (G.alloc _).later hb39 : OB w39 _ _ _ _)
        replace R := (by with_reducible first | exact R.old hb39 | exact (R.alloc _).old hb39 : InRow w39 _ _ _ _)
        replace T := (by with_reducible first | exact T.old hb39 | exact (T.alloc _).old hb39 : InRow w39 _ _ _ _)
        replace hB := (by with_reducible first | exact old_trans hB hb39 | exact old_trans (old_alloc hB _) hb39 : Below w.heap.size w w39)
        have K0 := K.1
        have K2 := K.2.2
        have M0 := M.1
        have M2 := M.2.2
        have Wc0 := Wc.1
        have Wc2 := Wc.2.2
        have Xc0 := Xc.1
        have Xc2 := Xc.2.2
        have Yc0 := Yc.1
        have Yc2 := Yc.2.2
        have Gc0 := Gc.1
        have Gc2 := Gc.2.2
        go_wp2_with fail
        refine (lMarkO _ avG cvG ql (1) _ G hql (by omega) (by omega)).mono ?_
        rintro e w40 ⟨rfl, G', hg40⟩
        clear K0 K2 M0 M2 Wc0 Wc2 Xc0 Xc2 Yc0 Yc2 Gc0 Gc2
        replace K := K.kept hg40 (G.ne_old l_K_G)
        replace M := M.kept hg40 (G.ne_old l_M_G)
        replace Wc := Wc.kept hg40 (G.ne_old l_Wc_G)
        replace Xc := Xc.kept hg40 (G.ne_old l_Xc_G)
        replace Yc := Yc.kept hg40 (G.ne_old l_Yc_G)
        replace Gc := Gc.kept hg40 (ne_young y_G_Gc)
        replace W := W.kept hg40 (G.sep l_W_G)
        replace X := X.kept hg40 (G.sep l_X_G)
        replace Y := Y.kept hg40 (G.sep l_Y_G)
        replace R := R.kept' hg40 (fun h0 => G.sep (l_R_G h0))
        replace T := T.kept' hg40 (fun h0 => G.sep (l_T_G h0))
        replace hB := Below.marked hB G hg40 n_G hB.size
        clear G
        have G := G'
        clear G'
        have K0 := K.1
        have K2 := K.2.2
        have M0 := M.1
        have M2 := M.2.2
        have Wc0 := Wc.1
        have Wc2 := Wc.2.2
        have Xc0 := Xc.1
        have Xc2 := Xc.2.2
        have Yc0 := Yc.1
        have Yc2 := Yc.2.2
        have Gc0 := Gc.1
        have Gc2 := Gc.2.2
        go_wp2_with fail
        refine (lHeldO _ avG cvG ql.length 1 _ G hql (by omega) (by omega)).mono ?_
        rintro e w41 ⟨rfl, hb41⟩
        clear K0 K2 M0 M2 Wc0 Wc2 Xc0 Xc2 Yc0 Yc2 Gc0 Gc2
        replace K := (by with_reducible first | exact K.later hb41 | exact (K.alloc _).later hb41 : Cel1 w41 _ _)
        replace M := (by with_reducible first | exact M.later hb41 | exact (M.alloc _).later hb41 : Cel1 w41 _ _)
        replace Wc := (by with_reducible first | exact Wc.later hb41 | exact (Wc.alloc _).later hb41 : Cel1 w41 _ _)
        replace Xc := (by with_reducible first | exact Xc.later hb41 | exact (Xc.alloc _).later hb41 : Cel1 w41 _ _)
        replace Yc := (by with_reducible first | exact Yc.later hb41 | exact (Yc.alloc _).later hb41 : Cel1 w41 _ _)
        replace Gc := (by with_reducible first | exact Gc.later hb41 | exact (Gc.alloc _).later hb41 : Cel1 w41 _ _)
        replace W := (by with_reducible first | exact W.later hb41 | exact (W.alloc _).later hb41 : OB w41 _ _ _ _)
        replace X := (by with_reducible first | exact X.later hb41 | exact (X.alloc _).later hb41 : OB w41 _ _ _ _)
        replace Y := (by with_reducible first | exact Y.later hb41 | exact (Y.alloc _).later hb41 : OB w41 _ _ _ _)
        replace G := (by with_reducible first | exact G.later hb41 | exact (G.alloc _).later hb41 : OB w41 _ _ _ _)
        replace R := (by with_reducible first | exact R.old hb41 | exact (R.alloc _).old hb41 : InRow w41 _ _ _ _)
        replace T := (by with_reducible first | exact T.old hb41 | exact (T.alloc _).old hb41 : InRow w41 _ _ _ _)
        replace hB := (by with_reducible first | exact old_trans hB hb41 | exact old_trans (old_alloc hB _) hb41 : Below w.heap.size w w41)
        have K0 := K.1
        have K2 := K.2.2
        have M0 := M.1
        have M2 := M.2.2
        have Wc0 := Wc.1
        have Wc2 := Wc.2.2
        have Xc0 := Xc.1
        have Xc2 := Xc.2.2
        have Yc0 := Yc.1
        have Yc2 := Yc.2.2
        have Gc0 := Gc.1
        have Gc2 := Gc.2.2
        clear K0 K2 M0 M2 Wc0 Wc2 Xc0 Xc2 Yc0 Yc2 Gc0 Gc2
        clear Xc
        clear Yc
        clear X
        clear Y
        have K0 := K.1
        have K2 := K.2.2
        have M0 := M.1
        have M2 := M.2.2
        have Wc0 := Wc.1
        have Wc2 := Wc.2.2
        have Gc0 := Gc.1
        have Gc2 := Gc.2.2
        have hz0 := Nat.le_refl w41.heap.size
        have Kn := Nat.ne_of_lt K2
        have Ko := Nat.ne_of_gt K2
        have Mn := Nat.ne_of_lt M2
        have Mo := Nat.ne_of_gt M2
        have Wcn := Nat.ne_of_lt Wc2
        have Wco := Nat.ne_of_gt Wc2
        have Gcn := Nat.ne_of_lt Gc2
        have Gco := Nat.ne_of_gt Gc2
        have l_K_H := K.ltb (Below.refl _ w41)
        have l_M_H := M.ltb (Below.refl _ w41)
        have l_Wc_H := Wc.ltb (Below.refl _ w41)
        have l_Gc_H := Gc.ltb (Below.refl _ w41)
        have l_W_H := W.ltb (Below.refl _ w41)
        have l_G_H := G.ltb (Below.refl _ w41)
        have l_R_H := R.ltb (Below.refl _ w41)
        have l_T_H := T.ltb (Below.refl _ w41)
        have n_H := hB.size
        go_upto_region 31 with fail
        go_cut [17, 18] (fun s t wx => ∃ pb av cv, s = .pointer (some ⟨pb, 0, none⟩) ∧ t = .bool r ∧ Cel1 wx pb (.slice av ql.length cv) ∧ OB wx w41.heap.size av cv ql ∧ w41.heap.size ≤ pb ∧ Cel1 wx w.heap.size (.slice a1 ps1.length cap1) ∧ Cel1 wx (w.heap.size + 1) (.slice a2 ps2.length cap2) ∧ Cel1 wx pbW (.slice avW ql.length cvW) ∧ Cel1 wx w15.heap.size (.slice avG ql.length cvG) ∧ OB wx w2.heap.size avW cvW ql ∧ OB wx (w14.alloc (.cells #[.slice avY ps2.length cvY] 29)).heap.size avG cvG (marks 1 ql.length) ∧ InRow wx a1 ps1.length cap1 ps1 ∧ InRow wx a2 ps2.length cap2 ps2 ∧ Below w.heap.size w wx)
        case first =>
          go_wp2_with fail
          go_region_held3 (fun w' => w'.cell? ⟨w.heap.size, 0, none⟩ = some (.slice a1 ps1.length cap1) ∧ w'.cell? ⟨(w.heap.size + 1), 0, none⟩ = some (.slice a2 ps2.length cap2) ∧ w'.cell? ⟨pbW, 0, none⟩ = some (.slice avW ql.length cvW) ∧ w'.cell? ⟨w15.heap.size, 0, none⟩ = some (.slice avG ql.length cvG)) (go_keep) (first | (go_at_call_of 17 (Value.agg #[.slice a1 ps1.length cap1]); refine (toBoxO a1 cap1 ps1 _ (by with_reducible first | exact R | exact R.drew | exact R.alloc _ | exact (R.alloc _).drew) hl1).mono ?_; rintro e wx ⟨⟨avZi, cvZi, rfl, Zi⟩, hbx⟩; (with_reducible first | (have lN := N.ltb hbx; have N := N.later hbx) | (have lN := N.drew.ltb hbx; have N := N.drew.later hbx) | (have hpN := hz0; have lN := (Cel1.made _ _ rfl (.slice none 0 0) 29).ltb hbx; have N := (Cel1.made _ _ rfl (.slice none 0 0) 29).later hbx) | (have hpN := hz0; have lN := (Cel1.made _ _ rfl (.slice none 0 0) 29).drew.ltb hbx; have N := (Cel1.made _ _ rfl (.slice none 0 0) 29).drew.later hbx) | skip); (first | (have N0 := N.1; have N1 := N.2.1; have N2 := N.2.2; have Nn := Nat.ne_of_lt N2; have No := Nat.ne_of_gt N2) | skip); have hz0 : w41.heap.size ≤ wx.heap.size := Nat.le_trans hz0 (sz_le hbx (by first | exact Nat.le_refl _ | (simp; done))); have K := (by with_reducible first | exact K.later hbx | exact K.drew.later hbx | exact (K.alloc _).later hbx | exact (K.alloc _).drew.later hbx : Cel1 wx _ _); have K0 := K.1; have K2 := K.2.2; have Kn := Nat.ne_of_lt K2; have Ko := Nat.ne_of_gt K2; have M := (by with_reducible first | exact M.later hbx | exact M.drew.later hbx | exact (M.alloc _).later hbx | exact (M.alloc _).drew.later hbx : Cel1 wx _ _); have M0 := M.1; have M2 := M.2.2; have Mn := Nat.ne_of_lt M2; have Mo := Nat.ne_of_gt M2; have Wc := (by with_reducible first | exact Wc.later hbx | exact Wc.drew.later hbx | exact (Wc.alloc _).later hbx | exact (Wc.alloc _).drew.later hbx : Cel1 wx _ _); have Wc0 := Wc.1; have Wc2 := Wc.2.2; have Wcn := Nat.ne_of_lt Wc2; have Wco := Nat.ne_of_gt Wc2; have Gc := (by with_reducible first | exact Gc.later hbx | exact Gc.drew.later hbx | exact (Gc.alloc _).later hbx | exact (Gc.alloc _).drew.later hbx : Cel1 wx _ _); have Gc0 := Gc.1; have Gc2 := Gc.2.2; have Gcn := Nat.ne_of_lt Gc2; have Gco := Nat.ne_of_gt Gc2; have W := (by with_reducible first | exact W.later hbx | exact W.drew.later hbx | exact (W.alloc _).later hbx | exact (W.alloc _).drew.later hbx : OB wx _ _ _ _); have G := (by with_reducible first | exact G.later hbx | exact G.drew.later hbx | exact (G.alloc _).later hbx | exact (G.alloc _).drew.later hbx : OB wx _ _ _ _); have R := (by with_reducible first | exact R.old hbx | exact R.drew.old hbx | exact (R.alloc _).old hbx | exact (R.alloc _).drew.old hbx : InRow wx _ _ _ _); have T := (by with_reducible first | exact T.old hbx | exact T.drew.old hbx | exact (T.alloc _).old hbx | exact (T.alloc _).drew.old hbx : InRow wx _ _ _ _); have hB := (by with_reducible first | exact old_trans hB hbx | exact old_trans hB.drew hbx | exact old_trans (old_alloc hB _) hbx | exact old_trans (old_alloc hB _).drew hbx : Below w.heap.size w wx); (first | (have Zj := (by with_reducible first | exact Zj.later hbx | exact Zj.drew.later hbx | exact (Zj.alloc _).later hbx | exact (Zj.alloc _).drew.later hbx : OB wx _ _ _ _)) | skip)) | (go_at_call_of 17 (Value.agg #[.slice a2 ps2.length cap2]); refine (toBoxO a2 cap2 ps2 _ (by with_reducible first | exact T | exact T.drew | exact T.alloc _ | exact (T.alloc _).drew) hl2).mono ?_; rintro e wx ⟨⟨avZj, cvZj, rfl, Zj⟩, hbx⟩; (with_reducible first | (have lN := N.ltb hbx; have N := N.later hbx) | (have lN := N.drew.ltb hbx; have N := N.drew.later hbx) | (have hpN := hz0; have lN := (Cel1.made _ _ rfl (.slice none 0 0) 29).ltb hbx; have N := (Cel1.made _ _ rfl (.slice none 0 0) 29).later hbx) | (have hpN := hz0; have lN := (Cel1.made _ _ rfl (.slice none 0 0) 29).drew.ltb hbx; have N := (Cel1.made _ _ rfl (.slice none 0 0) 29).drew.later hbx) | skip); (first | (have N0 := N.1; have N1 := N.2.1; have N2 := N.2.2; have Nn := Nat.ne_of_lt N2; have No := Nat.ne_of_gt N2) | skip); have hz0 : w41.heap.size ≤ wx.heap.size := Nat.le_trans hz0 (sz_le hbx (by first | exact Nat.le_refl _ | (simp; done))); have K := (by with_reducible first | exact K.later hbx | exact K.drew.later hbx | exact (K.alloc _).later hbx | exact (K.alloc _).drew.later hbx : Cel1 wx _ _); have K0 := K.1; have K2 := K.2.2; have Kn := Nat.ne_of_lt K2; have Ko := Nat.ne_of_gt K2; have M := (by with_reducible first | exact M.later hbx | exact M.drew.later hbx | exact (M.alloc _).later hbx | exact (M.alloc _).drew.later hbx : Cel1 wx _ _); have M0 := M.1; have M2 := M.2.2; have Mn := Nat.ne_of_lt M2; have Mo := Nat.ne_of_gt M2; have Wc := (by with_reducible first | exact Wc.later hbx | exact Wc.drew.later hbx | exact (Wc.alloc _).later hbx | exact (Wc.alloc _).drew.later hbx : Cel1 wx _ _); have Wc0 := Wc.1; have Wc2 := Wc.2.2; have Wcn := Nat.ne_of_lt Wc2; have Wco := Nat.ne_of_gt Wc2; have Gc := (by with_reducible first | exact Gc.later hbx | exact Gc.drew.later hbx | exact (Gc.alloc _).later hbx | exact (Gc.alloc _).drew.later hbx : Cel1 wx _ _); have Gc0 := Gc.1; have Gc2 := Gc.2.2; have Gcn := Nat.ne_of_lt Gc2; have Gco := Nat.ne_of_gt Gc2; have W := (by with_reducible first | exact W.later hbx | exact W.drew.later hbx | exact (W.alloc _).later hbx | exact (W.alloc _).drew.later hbx : OB wx _ _ _ _); have G := (by with_reducible first | exact G.later hbx | exact G.drew.later hbx | exact (G.alloc _).later hbx | exact (G.alloc _).drew.later hbx : OB wx _ _ _ _); have R := (by with_reducible first | exact R.old hbx | exact R.drew.old hbx | exact (R.alloc _).old hbx | exact (R.alloc _).drew.old hbx : InRow wx _ _ _ _); have T := (by with_reducible first | exact T.old hbx | exact T.drew.old hbx | exact (T.alloc _).old hbx | exact (T.alloc _).drew.old hbx : InRow wx _ _ _ _); have hB := (by with_reducible first | exact old_trans hB hbx | exact old_trans hB.drew hbx | exact old_trans (old_alloc hB _) hbx | exact old_trans (old_alloc hB _).drew hbx : Below w.heap.size w wx); (first | (have Zi := (by with_reducible first | exact Zi.later hbx | exact Zi.drew.later hbx | exact (Zi.alloc _).later hbx | exact (Zi.alloc _).drew.later hbx : OB wx _ _ _ _)) | skip)) | (go_at_call 23; refine (I.out _ _ _ _ _ _ _ (by with_reducible first | exact Zi.inRow | exact (Zi.drew).inRow | exact (Zi.alloc _).inRow | exact ((Zi.alloc _).drew).inRow) (by with_reducible first | exact Zj.inRow | exact (Zj.drew).inRow | exact (Zj.alloc _).inRow | exact ((Zj.alloc _).drew).inRow)).mono ?_; rintro e wx ⟨⟨avH, cvH, rfl, H⟩, hbx⟩; (with_reducible first | (have lN := N.ltb hbx; have N := N.later hbx) | (have lN := N.drew.ltb hbx; have N := N.drew.later hbx) | (have hpN := hz0; have lN := (Cel1.made _ _ rfl (.slice none 0 0) 29).ltb hbx; have N := (Cel1.made _ _ rfl (.slice none 0 0) 29).later hbx) | (have hpN := hz0; have lN := (Cel1.made _ _ rfl (.slice none 0 0) 29).drew.ltb hbx; have N := (Cel1.made _ _ rfl (.slice none 0 0) 29).drew.later hbx) | skip); (first | (have N0 := N.1; have N1 := N.2.1; have N2 := N.2.2; have Nn := Nat.ne_of_lt N2; have No := Nat.ne_of_gt N2) | skip); have gO := H.ge; have tO := H.lt; have H := H.mono (Nat.le_trans hz0 (by first | exact Nat.le_refl _ | (simp; done))); have hz0 : w41.heap.size ≤ wx.heap.size := Nat.le_trans hz0 (sz_le hbx (by first | exact Nat.le_refl _ | (simp; done))); have K := (by with_reducible first | exact K.later hbx | exact K.drew.later hbx | exact (K.alloc _).later hbx | exact (K.alloc _).drew.later hbx : Cel1 wx _ _); have K0 := K.1; have K2 := K.2.2; have Kn := Nat.ne_of_lt K2; have Ko := Nat.ne_of_gt K2; have M := (by with_reducible first | exact M.later hbx | exact M.drew.later hbx | exact (M.alloc _).later hbx | exact (M.alloc _).drew.later hbx : Cel1 wx _ _); have M0 := M.1; have M2 := M.2.2; have Mn := Nat.ne_of_lt M2; have Mo := Nat.ne_of_gt M2; have Wc := (by with_reducible first | exact Wc.later hbx | exact Wc.drew.later hbx | exact (Wc.alloc _).later hbx | exact (Wc.alloc _).drew.later hbx : Cel1 wx _ _); have Wc0 := Wc.1; have Wc2 := Wc.2.2; have Wcn := Nat.ne_of_lt Wc2; have Wco := Nat.ne_of_gt Wc2; have Gc := (by with_reducible first | exact Gc.later hbx | exact Gc.drew.later hbx | exact (Gc.alloc _).later hbx | exact (Gc.alloc _).drew.later hbx : Cel1 wx _ _); have Gc0 := Gc.1; have Gc2 := Gc.2.2; have Gcn := Nat.ne_of_lt Gc2; have Gco := Nat.ne_of_gt Gc2; have W := (by with_reducible first | exact W.later hbx | exact W.drew.later hbx | exact (W.alloc _).later hbx | exact (W.alloc _).drew.later hbx : OB wx _ _ _ _); have G := (by with_reducible first | exact G.later hbx | exact G.drew.later hbx | exact (G.alloc _).later hbx | exact (G.alloc _).drew.later hbx : OB wx _ _ _ _); have R := (by with_reducible first | exact R.old hbx | exact R.drew.old hbx | exact (R.alloc _).old hbx | exact (R.alloc _).drew.old hbx : InRow wx _ _ _ _); have T := (by with_reducible first | exact T.old hbx | exact T.drew.old hbx | exact (T.alloc _).old hbx | exact (T.alloc _).drew.old hbx : InRow wx _ _ _ _); have hB := (by with_reducible first | exact old_trans hB hbx | exact old_trans hB.drew hbx | exact old_trans (old_alloc hB _) hbx | exact old_trans (old_alloc hB _).drew hbx : Below w.heap.size w wx)))
          all_goals
            go_wp2_with fail
            go_meet
            first | exact ⟨_, _, _, rfl, rfl, N.set _, H.set _ (fun q e => Nat.ne_of_gt (Nat.lt_of_lt_of_le lN (gO q e))) _, hpN, K.aside _ (Nat.ne_of_lt (Nat.lt_of_lt_of_le l_K_H hpN)) _, M.aside _ (Nat.ne_of_lt (Nat.lt_of_lt_of_le l_M_H hpN)) _, Wc.aside _ (Nat.ne_of_lt (Nat.lt_of_lt_of_le l_Wc_H hpN)) _, Gc.aside _ (Nat.ne_of_lt (Nat.lt_of_lt_of_le l_Gc_H hpN)) _, W.set _ (fun q e => Nat.ne_of_lt (Nat.lt_of_lt_of_le (l_W_H q e) hpN)) _, G.set _ (fun q e => Nat.ne_of_lt (Nat.lt_of_lt_of_le (l_G_H q e) hpN)) _, R.set' _ _ (fun h0 q e => Nat.ne_of_lt (Nat.lt_of_lt_of_le (l_R_H h0 q e) hpN)), T.set' _ _ (fun h0 q e => Nat.ne_of_lt (Nat.lt_of_lt_of_le (l_T_H h0 q e) hpN)), Below.aside hB _ (Nat.le_trans n_H hpN) _⟩ | exact ⟨_, _, _, rfl, rfl, (Cel1.made _ _ rfl _ _).set _, (H.alloc _).set _ (fun q e => Nat.ne_of_lt (tO q e)) _, hz0, (K.alloc _).aside _ (Nat.ne_of_lt (Nat.lt_of_lt_of_le l_K_H hz0)) _, (M.alloc _).aside _ (Nat.ne_of_lt (Nat.lt_of_lt_of_le l_M_H hz0)) _, (Wc.alloc _).aside _ (Nat.ne_of_lt (Nat.lt_of_lt_of_le l_Wc_H hz0)) _, (Gc.alloc _).aside _ (Nat.ne_of_lt (Nat.lt_of_lt_of_le l_Gc_H hz0)) _, (W.alloc _).set _ (fun q e => Nat.ne_of_lt (Nat.lt_of_lt_of_le (l_W_H q e) hz0)) _, (G.alloc _).set _ (fun q e => Nat.ne_of_lt (Nat.lt_of_lt_of_le (l_G_H q e) hz0)) _, (R.alloc _).set' _ _ (fun h0 q e => Nat.ne_of_lt (Nat.lt_of_lt_of_le (l_R_H h0 q e) hz0)), (T.alloc _).set' _ _ (fun h0 q e => Nat.ne_of_lt (Nat.lt_of_lt_of_le (l_T_H h0 q e) hz0)), Below.aside (old_alloc hB _) _ (Nat.le_trans n_H hz0) _⟩ | exact ⟨_, _, _, rfl, rfl, Cel1.made _ _ rfl _ _, H.alloc _, hz0, K.alloc _, M.alloc _, Wc.alloc _, Gc.alloc _, W.alloc _, G.alloc _, R.alloc _, T.alloc _, old_alloc hB _⟩
        case rest =>
          clear K0 K2 M0 M2 Wc0 Wc2 Gc0 Gc2
          clear K M Wc Gc W G R T hB
          obtain ⟨wc4, rfl⟩ : ∃ x, x = wc := ⟨_, rfl⟩
          obtain ⟨pbH, avH, cvH, rfl, rfl, Hc, H, hpH, K, M, Wc, Gc, W, G, R, T, hB⟩ := hcut
          have K0 := K.1
          have K2 := K.2.2
          have M0 := M.1
          have M2 := M.2.2
          have Wc0 := Wc.1
          have Wc2 := Wc.2.2
          have Gc0 := Gc.1
          have Gc2 := Gc.2.2
          clear K0 K2 M0 M2 Wc0 Wc2 Gc0 Gc2
          have K0 := K.1
          have K2 := K.2.2
          have M0 := M.1
          have M2 := M.2.2
          have Wc0 := Wc.1
          have Wc2 := Wc.2.2
          have Gc0 := Gc.1
          have Gc2 := Gc.2.2
          have Hc0 := Hc.1
          have Hc2 := Hc.2.2
          go_wp2_with fail
          refine (lEqO avH avW cvH cvW _ _ ql _ H W).mono ?_
          rintro e w52 ⟨rfl, hb52⟩
          clear K0 K2 M0 M2 Wc0 Wc2 Gc0 Gc2 Hc0 Hc2
          replace K := (by with_reducible first | exact K.later hb52 | exact (K.alloc _).later hb52 : Cel1 w52 _ _)
          replace M := (by with_reducible first | exact M.later hb52 | exact (M.alloc _).later hb52 : Cel1 w52 _ _)
          replace Wc := (by with_reducible first | exact Wc.later hb52 | exact (Wc.alloc _).later hb52 : Cel1 w52 _ _)
          replace Gc := (by with_reducible first | exact Gc.later hb52 | exact (Gc.alloc _).later hb52 : Cel1 w52 _ _)
          replace Hc := (by with_reducible first | exact Hc.later hb52 | exact (Hc.alloc _).later hb52 : Cel1 w52 _ _)
          replace W := (by with_reducible first | exact W.later hb52 | exact (W.alloc _).later hb52 : OB w52 _ _ _ _)
          replace G := (by with_reducible first | exact G.later hb52 | exact (G.alloc _).later hb52 : OB w52 _ _ _ _)
          replace H := (by with_reducible first | exact H.later hb52 | exact (H.alloc _).later hb52 : OB w52 _ _ _ _)
          replace R := (by with_reducible first | exact R.old hb52 | exact (R.alloc _).old hb52 : InRow w52 _ _ _ _)
          replace T := (by with_reducible first | exact T.old hb52 | exact (T.alloc _).old hb52 : InRow w52 _ _ _ _)
          replace hB := (by with_reducible first | exact old_trans hB hb52 | exact old_trans (old_alloc hB _) hb52 : Below w.heap.size w w52)
          have K0 := K.1
          have K2 := K.2.2
          have M0 := M.1
          have M2 := M.2.2
          have Wc0 := Wc.1
          have Wc2 := Wc.2.2
          have Gc0 := Gc.1
          have Gc2 := Gc.2.2
          have Hc0 := Hc.1
          have Hc2 := Hc.2.2
          go_wp2_with fail
          refine (lHeldO _ avG cvG ql.length 1 _ G hql (by omega) (by omega)).mono ?_
          rintro e w53 ⟨rfl, hb53⟩
          clear K0 K2 M0 M2 Wc0 Wc2 Gc0 Gc2 Hc0 Hc2
          replace K := (by with_reducible first | exact K.later hb53 | exact (K.alloc _).later hb53 : Cel1 w53 _ _)
          replace M := (by with_reducible first | exact M.later hb53 | exact (M.alloc _).later hb53 : Cel1 w53 _ _)
          replace Wc := (by with_reducible first | exact Wc.later hb53 | exact (Wc.alloc _).later hb53 : Cel1 w53 _ _)
          replace Gc := (by with_reducible first | exact Gc.later hb53 | exact (Gc.alloc _).later hb53 : Cel1 w53 _ _)
          replace Hc := (by with_reducible first | exact Hc.later hb53 | exact (Hc.alloc _).later hb53 : Cel1 w53 _ _)
          replace W := (by with_reducible first | exact W.later hb53 | exact (W.alloc _).later hb53 : OB w53 _ _ _ _)
          replace G := (by with_reducible first | exact G.later hb53 | exact (G.alloc _).later hb53 : OB w53 _ _ _ _)
          replace H := (by with_reducible first | exact H.later hb53 | exact (H.alloc _).later hb53 : OB w53 _ _ _ _)
          replace R := (by with_reducible first | exact R.old hb53 | exact (R.alloc _).old hb53 : InRow w53 _ _ _ _)
          replace T := (by with_reducible first | exact T.old hb53 | exact (T.alloc _).old hb53 : InRow w53 _ _ _ _)
          replace hB := (by with_reducible first | exact old_trans hB hb53 | exact old_trans (old_alloc hB _) hb53 : Below w.heap.size w w53)
          have K0 := K.1
          have K2 := K.2.2
          have M0 := M.1
          have M2 := M.2.2
          have Wc0 := Wc.1
          have Wc2 := Wc.2.2
          have Gc0 := Gc.1
          have Gc2 := Gc.2.2
          have Hc0 := Hc.1
          have Hc2 := Hc.2.2
          go_wp2
          go_ret
          exact ⟨rfl, hB⟩

set_option maxRecDepth 100000 in
theorem FnExactBoxMeet_lifted (os : Os) (started : os.Started) (H : Type) (enc : TypeId × Value → H) :
    ReturnsInHanded {} Try.checked os 5 .any (Rows.fnExactBoxMeetSpec.pre6 enc Try.prog Try.f5 Rows.fnExactBoxMeetRow.domain false) (Rows.fnExactBoxMeetSpec.post enc Try.prog Try.f5 false true false false) := by
  refine returnsInHanded_of_change (C := Try.checked) FnExactBoxMeet_own started (by kernel_rfl) Try.func5
    (ChangeSpec.witness6 (enc := enc) (C := Try.checked) false ⟨#[], #[.int .i64 0, .agg #[.slice none 0 0], .agg #[.slice none 0 0]], []⟩ 8 (by kernel_rfl) (by kernel_rfl) (by kernel_rfl) (by kernel_rfl)) ?_
  intro W base args ds gs before hval0 hW hcnd _
  have hval : ∀ (j : Nat) t v, Try.f5.params[j]? = some t → args[j]? = some v → Value.okWide Try.prog W .any base t v := hval0
  have hW' := hW
  obtain ⟨p, q, hA0, hV, rfl, hfz, hnd⟩ := hW
  have hA : DataW.TrodAll enc Try.prog W 0 (fun _ => true) true Try.f5.params.toList args.toList ds p := hA0
  rw [Try.params5] at hA hval
  obtain ⟨v0, vs0, d0, ds0, p0, q0, hargs, rfl, rfl, h0, r0⟩ := trodAll_cons hA
  obtain ⟨v1, vs1, d1, ds1, p1, q1, rfl, rfl, rfl, h1, r1⟩ := trodAll_cons r0
  obtain ⟨v2, vs2, d2, ds2, p2, q2, rfl, rfl, rfl, h2, r2⟩ := trodAll_cons r1
  obtain ⟨rfl, rfl, rfl⟩ := trodAll_nil r2
  obtain rfl : args = #[v0, v1, v2] := by cases args; simp_all
  obtain ⟨rfl, rfl⟩ := trodVars_none hV
  have k0 := h0
  have lt0 : ∀ x ∈ p0, x.block < W.heap.size := by obtain ⟨m, hm⟩ := k0; exact DataW.trod_lt m _ _ _ hm
  obtain ⟨a0, rfl, -, -, wf0⟩ := open_int Try.underlying3 (hval 0 3 v0 rfl rfl) h0
  have wa0 := bounds_i64 wf0
  have k1 := h1
  have lt1 : ∀ x ∈ p1, x.block < W.heap.size := by obtain ⟨m, hm⟩ := k1; exact DataW.trod_lt m _ _ _ hm
  obtain ⟨a1, len1, cap1, ps1, rfl, wb1⟩ := open_lbox (hval 1 24 v1 rfl rfl) h1
  have k2 := h2
  have lt2 : ∀ x ∈ p2, x.block < W.heap.size := by obtain ⟨m, hm⟩ := k2; exact DataW.trod_lt m _ _ _ hm
  obtain ⟨a2, len2, cap2, ps2, rfl, wb2⟩ := open_lbox (hval 2 24 v2 rfl rfl) h2
  clear hA0 hval0
  refine (FnExactBoxMeet_walk a0 wa0 a1 len1 cap1 ps1 a2 len2 cap2 ps2 W wb1 wb2).mono fun e W' ⟨he, bel⟩ => ?_
  subst he
  exact ⟨_, rfl, _, _, _, [], _, [], hW', trodAll_mk1 (shut_bool Try.underlying4 _), (trodAll_cons_mk (Below.trod jf1 (by kernel_rfl) (of_decide_eq_true (by kernel_rfl)) k0 bel lt0) (trodAll_cons_mk (Below.trod jf1 (by kernel_rfl) (of_decide_eq_true (by kernel_rfl)) k1 bel lt1) (trodAll_cons_mk (Below.trod jf1 (by kernel_rfl) (of_decide_eq_true (by kernel_rfl)) k2 bel lt2) trodAll_mk0))), rfl, bel.frame _, fun h => by cases h⟩

theorem FnExactBoxMeet_k0 : (Rows.fnExactBoxMeetRow.wf (OpenSpec.ofChange Rows.fnExactBoxMeetSpec)) = true := by kernel_rfl
theorem FnExactBoxMeet_k3 : (Try.f5.params.all (Try.prog.readableRec ·)) = true := by kernel_rfl
theorem FnExactBoxMeet_k4 : (namedTie Try.prog Rows.fnExactBoxMeetRow.named Rows.fnExactBoxMeetSpec.vars) = true := by kernel_rfl
theorem FnExactBoxMeet_k5 : ((Rows.fnExactBoxMeetRow.stops == [])) = true := by kernel_rfl
theorem FnExactBoxMeet_k7 : ((Rows.fnExactBoxMeetRow.knobs == [])) = true := by kernel_rfl
theorem FnExactBoxMeet_k9 : ((Rows.fnExactBoxMeetRow.inPlace == Try.prog.inPlace 5)) = true := by kernel_rfl
theorem FnExactBoxMeet_k10 : ((Rows.fnExactBoxMeetRow.unfollowed == Try.prog.unfollowed 5)) = true := by kernel_rfl
theorem FnExactBoxMeet_k11 : ((Rows.fnExactBoxMeetRow.recurses == Try.prog.recurses 5)) = true := by kernel_rfl
theorem FnExactBoxMeet_k12 : ((Rows.fnExactBoxMeetRow.named == Try.prog.varsNamed 5)) = true := by kernel_rfl
theorem FnExactBoxMeet_k13 : ((Rows.fnExactBoxMeetRow.maps == (Try.f5.params.toList ++ Rows.fnExactBoxMeetSpec.plain.varTypes Try.prog).any (Try.prog.mapsRec ·))) = true := by kernel_rfl
theorem FnExactBoxMeet_k14 : ((Rows.fnExactBoxMeetRow.ifaces == (Try.f5.params.toList ++ Rows.fnExactBoxMeetSpec.plain.varTypes Try.prog).any (Try.prog.ifacesRec ·))) = true := by kernel_rfl
theorem FnExactBoxMeet_k15 : ((Rows.fnExactBoxMeetRow.mapsOut == Try.prog.mapsAmong Try.f5.resultTypes.toList)) = true := by kernel_rfl
theorem FnExactBoxMeet_k16 : ((Rows.fnExactBoxMeetRow.loops == (Try.f5.params.toList ++ Rows.fnExactBoxMeetSpec.plain.varTypes Try.prog).any (Try.prog.loopsFrom ·))) = true := by kernel_rfl
theorem FnExactBoxMeet_k17 : ((Rows.fnExactBoxMeetRow.wideKeys == (Try.f5.params.toList ++ Rows.fnExactBoxMeetSpec.plain.varTypes Try.prog ++ Try.f5.resultTypes.toList).any (Try.prog.wideKeysFrom ·))) = true := by kernel_rfl
theorem FnExactBoxMeet_k18 : (Rows.fnExactBoxMeetSpec.vars.all (Try.prog.varReadable ·)) = true := by kernel_rfl
theorem FnExactBoxMeet_k19 : (Try.f5.resultTypes.all (fun t => Try.prog.readableRec t && decide (t < Try.prog.types.size))) = true := by kernel_rfl
theorem FnExactBoxMeet_k20 : ((Rows.fnExactBoxMeetRow.ifacesOut == Try.f5.resultTypes.toList.any (Try.prog.ifacesRec ·))) = true := by kernel_rfl
theorem FnExactBoxMeet_k21 : ((Rows.fnExactBoxMeetRow.loopsOut == Try.f5.resultTypes.toList.any (Try.prog.loopsFrom ·))) = true := by kernel_rfl
theorem FnExactBoxMeet_k23 : (Rows.fnExactBoxMeetRow.shortTexts.isNone) = true := by kernel_rfl
theorem FnExactBoxMeet_k28 : ((Rows.fnExactBoxMeetRow.kinds == (if Rows.fnExactBoxMeetRow.domain.isEmpty then [] else Try.f5.params.toList.map fun t => match Try.prog.underlying t with | some (.int k) => some k | _ => none))) = true := by kernel_rfl
theorem FnExactBoxMeet_k29 : ((Rows.fnExactBoxMeetRow.pinned == Rows.fnExactBoxMeetRow.pinnedBy)) = true := by kernel_rfl
theorem FnExactBoxMeet_k30 : ((Rows.fnExactBoxMeetRow.veiled == (Try.f5.params.toList ++ Rows.fnExactBoxMeetSpec.plain.varTypes Try.prog ++ Try.f5.resultTypes.toList).any (Try.prog.veiledRec ·))) = true := by kernel_rfl
theorem FnExactBoxMeet_k31 : (Rows.fnExactBoxMeetRow.veiledFits Try.prog Try.f5.params.toList (Try.f5.params.toList ++ Rows.fnExactBoxMeetSpec.plain.varTypes Try.prog ++ Try.f5.resultTypes.toList)) = true := by kernel_rfl
set_option maxRecDepth 100000 in
theorem FnExactBoxMeet_closed : joinedFacts Try.prog 5 Try.f5 Rows.fnExactBoxMeetSpec Rows.fnExactBoxMeetRow = true := (and2 (and2 (and2 (and2 (and2 (and2 (and2 (and2 (and2 (and2 (and2 (and2 (and2 (and2 (and2 (and2 (and2 (and2 (and2 (and2 (and2 (and2 (and2 (and2 (and2 (and2 (and2 (and2 (and2 (and2 (and2 FnExactBoxMeet_k0 jf1) jf2) FnExactBoxMeet_k3) FnExactBoxMeet_k4) FnExactBoxMeet_k5) jf6) FnExactBoxMeet_k7) jf8) FnExactBoxMeet_k9) FnExactBoxMeet_k10) FnExactBoxMeet_k11) FnExactBoxMeet_k12) FnExactBoxMeet_k13) FnExactBoxMeet_k14) FnExactBoxMeet_k15) FnExactBoxMeet_k16) FnExactBoxMeet_k17) FnExactBoxMeet_k18) FnExactBoxMeet_k19) FnExactBoxMeet_k20) FnExactBoxMeet_k21) jf22) FnExactBoxMeet_k23) jf24) jf25) jf26) jf27) FnExactBoxMeet_k28) FnExactBoxMeet_k29) FnExactBoxMeet_k30) FnExactBoxMeet_k31)
theorem FnExactBoxMeet_over : Rows.fnExactBoxMeetRow.holds Try.pinned (OpenSpec.ofChange Rows.fnExactBoxMeetSpec) :=
  OpenClaim.holds_of_wide 5 Try.f5 rfl rfl rfl rfl rfl rfl rfl ⟨rfl, rfl, rfl, rfl, rfl⟩ rfl rfl rfl rfl rfl (by kernel_rfl) Try.func5 FnExactBoxMeet_closed
    (of_decide_eq_true (by kernel_rfl)) (by unfold Func.isWrapper; first | (rw [if_pos (by decide +kernel)]; kernel_rfl) | (rw [if_neg (by decide +kernel)]; exact ⟨rfl, rfl⟩))
    (fun os started H enc _ => FnExactBoxMeet_lifted os started H enc)

theorem FnExactBoxMeet_proved : Rows.FnExactBoxMeetSaid := FnExactBoxMeet_over
end Go.Proofs.Ytmeijbiohbpgpaa
