/- Two boxes of one, by what a gap leaves of one coordinate: by the specification and by the program. Condition: 2^20 pairs at most. -/
import Derived.Test.YtpnfkigeagbhpaaPK19
import Derived.Test.YtpnfkigeagbhpaaPK16
import Derived.Test.YtpnfkigeagbhpaaPK07
namespace Go.Proofs.Ytpnfkigeagbhpaa
open Go.RowKit
set_option linter.unusedVariables false
set_option maxRecDepth 100000

def TwoP (V wx : World) (s s' t : Value) (r : Bool) (x1 y1 x2 y2 : Int) : Prop :=
  ∃ (b c : Nat), s = .pointer (some ⟨b, 0, none⟩) ∧ s' = .pointer (some ⟨c, 0, none⟩) ∧ t = .bool r ∧ Cel2 wx b (.int .i64 x1) (.int .i64 y1) ∧ Cel2 wx c (.int .i64 x2) (.int .i64 y2) ∧ V.heap.size ≤ b ∧ V.heap.size ≤ c ∧ b ≠ c ∧ Below V.heap.size V wx
set_option maxRecDepth 100000 in
set_option maxHeartbeats 4000000 in
theorem sCutG (wd at_ gc gd : Int) (a : Option Addr) (cap : Nat) (ps : List (Int × Int)) (r2 : Bool) (x1 y1 x2 y2 : Int) (w : World) (hR : InRow w a ps.length cap ps) (hl : ps.length ≤ 1048576)
    (hG : ∀ (k : Nat) (W : World), (k : Int) = at_ → k < ps.length → Below w.heap.size w W → Calls Try.prog 60 #[.int .i64 wd, .agg #[.int .i64 (ps.getD k (0, 0)).1, .int .i64 (ps.getD k (0, 0)).2], .agg #[.int .i64 gc, .int .i64 gd]] W fun e W' => e = .returned (pair2V r2 x1 y1 x2 y2) ∧ Below W.heap.size W W')
    (hf : r2 = true → fit4 x1 y1 x2 y2) :
    Calls Try.prog 24 #[.int .i64 wd, .agg #[.slice a ps.length cap], .int .i64 at_, .agg #[.int .i64 gc, .int .i64 gd]] w fun e w' => BR2 w.heap.size w' e (inB wd at_ ps && r2) (ps.set at_.toNat (x1, y1)) (ps.set at_.toNat (x2, y2)) ∧ Below w.heap.size w w' := by
  have hlen : ps.length ≤ maxLen := Nat.le_trans hR.2.1 hR.2.2.1
  have hfp := hR.2.2.2.1
  have hB : Below w.heap.size w ((((w.alloc (.cells #[.slice a ps.length cap] 25)).alloc (.cells #[.int .i64 gc, .int .i64 gd] 42)).alloc (.cells #[.slice none 0 0] 25)).alloc (.cells #[.slice none 0 0] 25)) := (by repeat (first | exact Below.refl _ _ | refine Below.drew ?_ | refine old_alloc ?_ _ | refine old_trans ?_ (by assumption)))
  have K : Cel1 ((((w.alloc (.cells #[.slice a ps.length cap] 25)).alloc (.cells #[.int .i64 gc, .int .i64 gd] 42)).alloc (.cells #[.slice none 0 0] 25)).alloc (.cells #[.slice none 0 0] 25)) w.heap.size (.slice a ps.length cap) := (((Cel1.made w _ rfl _ _).alloc _).alloc _).alloc _
  have GP : Cel2 ((((w.alloc (.cells #[.slice a ps.length cap] 25)).alloc (.cells #[.int .i64 gc, .int .i64 gd] 42)).alloc (.cells #[.slice none 0 0] 25)).alloc (.cells #[.slice none 0 0] 25)) (w.heap.size + 1) (.int .i64 gc) (.int .i64 gd) := ((Cel2.made _ _ (by simp) _ _ _).alloc _).alloc _
  have N1 : Cel1 ((((w.alloc (.cells #[.slice a ps.length cap] 25)).alloc (.cells #[.int .i64 gc, .int .i64 gd] 42)).alloc (.cells #[.slice none 0 0] 25)).alloc (.cells #[.slice none 0 0] 25)) (w.heap.size + 1 + 1) (.slice none 0 0) := (Cel1.made _ _ (by simp) _ _).alloc _
  have N2 : Cel1 ((((w.alloc (.cells #[.slice a ps.length cap] 25)).alloc (.cells #[.int .i64 gc, .int .i64 gd] 42)).alloc (.cells #[.slice none 0 0] 25)).alloc (.cells #[.slice none 0 0] 25)) (w.heap.size + 1 + 1 + 1) (.slice none 0 0) := Cel1.made _ _ (by simp) _ _
  have OK := hd (fun w' (h : Below w.heap.size w w') => sBoxOk wd a ps.length cap ps w' (hR.old h))
  generalize hW0 : ((((w.alloc (.cells #[.slice a ps.length cap] 25)).alloc (.cells #[.int .i64 gc, .int .i64 gd] 42)).alloc (.cells #[.slice none 0 0] 25)).alloc (.cells #[.slice none 0 0] 25)) = V0 at *
  obtain ⟨k0, k1, k2⟩ := id K
  cases hok : okRow wd ps
  · have e : inB wd at_ ps = false := by unfold inB; rw [hok]; rfl
    rw [e, Bool.false_and]
    rw [hok] at OK
    clear e hok
    go_enter Try.func24, Try.ntmps24
    go_wp2_with fail
    refine (OK.out _ hB).mono ?_
    rintro ev w1 ⟨rfl, hb1⟩
    replace K := K.later hb1
    replace N1 := N1.later hb1
    replace N2 := N2.later hb1
    replace hB := old_trans hB hb1
    clear k0 k1 k2
    obtain ⟨n10, n11, n12⟩ := id N1
    obtain ⟨n20, n21, n22⟩ := id N2
    obtain ⟨k0, k1, k2⟩ := id K
    go_wp2
    have P1 := (N1.set (.slice none 0 0)).aside (w.heap.size + 1 + 1 + 1) (by omega) (.slice none 0 0)
    have P2 := (N2.aside (w.heap.size + 1 + 1) (by omega) (.slice none 0 0)).set (.slice none 0 0)
    have hBf := Below.aside (Below.aside hB (w.heap.size + 1 + 1) (by omega) (.slice none 0 0)) (w.heap.size + 1 + 1 + 1) (by omega) (.slice none 0 0)
    refine bodyPost_ret (v := .tuple #[.agg #[.slice none 0 0], .agg #[.slice none 0 0], .bool false]) ?_ rfl ⟨BR2.no _ _ _ _, hBf⟩
    simp [results, Try.results24, go_sem, P1.1, P2.1]
  rw [hok] at OK
  by_cases hin : 0 ≤ at_ ∧ at_ < (ps.length : Int)
  case neg =>
    have e : inB wd at_ ps = false := by unfold inB; rw [hok, decide_eq_false hin]; rfl
    rw [e, Bool.false_and]
    clear e hok
    have hin' : at_ < 0 ∨ (¬ at_ < 0 ∧ at_ ≥ (ps.length : Int)) := by omega
    clear hin
    go_enter Try.func24, Try.ntmps24
    go_wp2_with fail
    refine (OK.out _ hB).mono ?_
    rintro ev w1 ⟨rfl, hb1⟩
    replace K := K.later hb1
    replace N1 := N1.later hb1
    replace N2 := N2.later hb1
    replace hB := old_trans hB hb1
    clear k0 k1 k2
    obtain ⟨n10, n11, n12⟩ := id N1
    obtain ⟨n20, n21, n22⟩ := id N2
    obtain ⟨k0, k1, k2⟩ := id K
    rcases hin' with hin' | ⟨hin1, hin2⟩
    all_goals
      go_wp2
      have P1 := (N1.set (.slice none 0 0)).aside (w.heap.size + 1 + 1 + 1) (by omega) (.slice none 0 0)
      have P2 := (N2.aside (w.heap.size + 1 + 1) (by omega) (.slice none 0 0)).set (.slice none 0 0)
      have hBf := Below.aside (Below.aside hB (w.heap.size + 1 + 1) (by omega) (.slice none 0 0)) (w.heap.size + 1 + 1 + 1) (by omega) (.slice none 0 0)
      refine bodyPost_ret (v := .tuple #[.agg #[.slice none 0 0], .agg #[.slice none 0 0], .bool false]) ?_ rfl ⟨BR2.no _ _ _ _, hBf⟩
      simp [results, Try.results24, go_sem, P1.1, P2.1]

  obtain ⟨k, rfl⟩ := Int.eq_ofNat_of_zero_le hin.1
  have hk : k < ps.length := by omega
  have e : inB wd (k : Int) ps = true := by unfold inB; rw [hok, decide_eq_true hin]; rfl
  rw [e, Bool.true_and, Int.toNat_natCast]
  clear e hok
  have hi1 : ¬ (k : Int) < 0 := by omega
  have hi2 : ¬ (k : Int) ≥ (ps.length : Int) := by omega
  have FV := hd (fun W (h : Below w.heap.size w W) => hG k W rfl hk h)
  have R0 := hR.old hB
  obtain ⟨b, off, x, y, rfl, hbl, hx, hxf, c0, c1⟩ := R0.at hk
  rw [hx] at FV
  clear c0 c1 R0 hxf
  cases hr2 : r2
  · rw [hr2] at FV
    go_enter Try.func24, Try.ntmps24
    go_wp2_with fail
    refine (OK.out _ hB).mono ?_
    rintro ev w1 ⟨rfl, hb1⟩
    replace K := K.later hb1
    replace N1 := N1.later hb1
    replace N2 := N2.later hb1
    replace hB := old_trans hB hb1
    replace GP := GP.later hb1
    obtain ⟨gp0, gp1, gp2, gp3, gp4⟩ := id GP
    obtain ⟨b', off', x', y', e', -, hx', -, c0, c1⟩ := (hR.old hB).at hk
    injection e' with e'; injection e' with e1 e2; subst e1 e2
    rw [hx] at hx'; injection hx' with e1 e2; subst e1 e2
    clear k0 k1 k2
    obtain ⟨k0, k1, k2⟩ := id K
    have k0n := Nat.ne_of_lt k2
    have k0o := Nat.ne_of_gt k2
    have gpn := Nat.ne_of_lt gp4
    have gpo := Nat.ne_of_gt gp4
    have hb0 : b < w1.heap.size := Nat.lt_of_lt_of_le hbl hb1.size
    have hbn := Nat.ne_of_lt hb0
    have hbo := Nat.ne_of_gt hb0
    have k0n' := Nat.ne_of_lt (Nat.lt_add_right 1 k2)
    have k0o' := Nat.ne_of_gt (Nat.lt_add_right 1 k2)
    have gpn' := Nat.ne_of_lt (Nat.lt_add_right 1 gp4)
    have gpo' := Nat.ne_of_gt (Nat.lt_add_right 1 gp4)
    have hbn' := Nat.ne_of_lt (Nat.lt_add_right 1 hb0)
    have hbo' := Nat.ne_of_gt (Nat.lt_add_right 1 hb0)
    rw [show pair2V false x1 y1 x2 y2 = .tuple #[.agg #[.int .i64 0, .int .i64 0], .agg #[.int .i64 0, .int .i64 0], .bool false] from rfl] at FV
    go_upto_region 3 with fail
    go_cut [11, 12, 13] (fun s s' t wx => ∃ wC, wC = wx ∧ TwoP w1 wC s s' t false 0 0 0 0)
    case first =>
      go_wp2_with fail
      go_region_held3 (fun w' => w'.cell? ⟨w.heap.size, 0, none⟩ = some (.slice (some ⟨b, off, none⟩) ps.length cap) ∧ w'.cell? ⟨b, off + k * 2, none⟩ = some (.int .i64 x) ∧ w'.cell? ⟨b, off + k * 2 + 1, none⟩ = some (.int .i64 y) ∧ w'.cell? ⟨w.heap.size + 1, 0, none⟩ = some (.int .i64 gc) ∧ w'.cell? ⟨w.heap.size + 1, 1, none⟩ = some (.int .i64 gd)) (go_keep) (first | (go_at_call 60; refine (FV.out _ (by repeat (first | with_reducible exact hB | with_reducible exact Below.refl _ _ | with_reducible refine Below.drew ?_ | with_reducible refine old_alloc ?_ _ | with_reducible refine old_trans ?_ (by with_reducible assumption)))).mono ?_; rintro e w2 ⟨rfl, hb2⟩; have z2 := hb2.size; have hz2 : Below w1.heap.size w1 w2 := (by repeat (first | with_reducible exact Below.refl _ _ | with_reducible refine Below.drew ?_ | ((with_reducible refine Below.setCell ?_ ?_ _); rotate_left; (focus (first | (simp; done) | omega | (simp; omega)))) | with_reducible refine old_alloc ?_ _ | with_reducible refine old_trans ?_ (by with_reducible assumption))); have k0 := cell_later hz2 k0; have c0 := cell_later hz2 c0; have c1 := cell_later hz2 c1; have gp0 := cell_later hz2 gp0; have gp1 := cell_later hz2 gp1; (first | (have N := ((Cel2.made _ _ rfl (.int .i64 0) (.int .i64 0) 42).alloc (.cells #[.int .i64 0, .int .i64 0] 42)).later hb2; have O := (Cel2.made _ _ rfl (.int .i64 0) (.int .i64 0) 42).later hb2; (try simp only [World.size_alloc] at N); (try simp only [World.size_alloc] at O); have nn0 := N.1; have nn1 := N.2.1; have nn2 := N.2.2.1; have nn3 := N.2.2.2.1; have nnz := N.2.2.2.2; have nnn := Nat.ne_of_lt nnz; have nno := Nat.ne_of_gt nnz; have oo0 := O.1; have oo1 := O.2.1; have oo2 := O.2.2.1; have oo3 := O.2.2.2.1; have ooz := O.2.2.2.2; have oon := Nat.ne_of_lt ooz; have ooo := Nat.ne_of_gt ooz) | (have N := (Cel2.made _ _ rfl (.int .i64 0) (.int .i64 0) 42).later hb2; (try simp only [World.size_alloc] at N); have nn0 := N.1; have nn1 := N.2.1; have nn2 := N.2.2.1; have nn3 := N.2.2.2.1; have nnz := N.2.2.2.2; have nnn := Nat.ne_of_lt nnz; have nno := Nat.ne_of_gt nnz) | (have N := ((Cel2.made _ _ rfl (.int .i64 0) (.int .i64 0) 42).alloc (.cells #[.int .i64 0, .int .i64 0] 42)).drew.later hb2; have O := (Cel2.made _ _ rfl (.int .i64 0) (.int .i64 0) 42).drew.later hb2; (try simp only [World.size_alloc] at N); (try simp only [World.size_alloc] at O); have nn0 := N.1; have nn1 := N.2.1; have nn2 := N.2.2.1; have nn3 := N.2.2.2.1; have nnz := N.2.2.2.2; have nnn := Nat.ne_of_lt nnz; have nno := Nat.ne_of_gt nnz; have oo0 := O.1; have oo1 := O.2.1; have oo2 := O.2.2.1; have oo3 := O.2.2.2.1; have ooz := O.2.2.2.2; have oon := Nat.ne_of_lt ooz; have ooo := Nat.ne_of_gt ooz) | (have N := (Cel2.made _ _ rfl (.int .i64 0) (.int .i64 0) 42).drew.later hb2; (try simp only [World.size_alloc] at N); have nn0 := N.1; have nn1 := N.2.1; have nn2 := N.2.2.1; have nn3 := N.2.2.2.1; have nnz := N.2.2.2.2; have nnn := Nat.ne_of_lt nnz; have nno := Nat.ne_of_gt nnz) | skip)))
      all_goals
        go_wp2_with fail
        go_meet
        exact ⟨_, rfl, _, _, rfl, rfl, rfl, (by repeat (first | with_reducible exact N | with_reducible exact O | with_reducible exact Cel2.made _ _ rfl _ _ _ | (with_reducible refine Cel2.made _ _ ?_ _ _ _; (simp; done)) | with_reducible refine Cel2.stored (u := .int .i64 0) (v := .int .i64 0) ?_ _ _ | with_reducible refine Cel2.drew ?_ | (with_reducible refine Cel2.others ?_ _ ?_ _ _; rotate_left; (focus (first | omega | (simp; omega)))) | with_reducible refine Cel2.alloc ?_ _)), (by repeat (first | with_reducible exact N | with_reducible exact O | with_reducible exact Cel2.made _ _ rfl _ _ _ | (with_reducible refine Cel2.made _ _ ?_ _ _ _; (simp; done)) | with_reducible refine Cel2.stored (u := .int .i64 0) (v := .int .i64 0) ?_ _ _ | with_reducible refine Cel2.drew ?_ | (with_reducible refine Cel2.others ?_ _ ?_ _ _; rotate_left; (focus (first | omega | (simp; omega)))) | with_reducible refine Cel2.alloc ?_ _)), (by first | omega | (simp only [World.size_alloc]; omega) | (simp; omega) | (simp at *; omega)), (by first | omega | (simp only [World.size_alloc]; omega) | (simp; omega) | (simp at *; omega)), (by first | omega | (simp only [World.size_alloc]; omega) | (simp; omega) | (simp at *; omega)), (by repeat (first | with_reducible exact Below.refl _ _ | with_reducible refine Below.drew ?_ | ((with_reducible refine Below.setCell ?_ ?_ _); rotate_left; (focus (first | (simp; done) | omega | (simp; omega)))) | with_reducible refine old_alloc ?_ _ | with_reducible refine old_trans ?_ (by with_reducible assumption)))⟩
    case rest =>
    obtain ⟨wC, hwC, bx, cx, hs1, hs2, hs3, X, Y, gx, gy, nxy, hb2⟩ := hcut
    subst hwC hs1 hs2 hs3
    clear k0n k0o gpn gpo hbn hbo k0n' k0o' gpn' gpo' hbn' hbo'
    replace K := K.later hb2
    replace N1 := N1.later hb2
    replace N2 := N2.later hb2
    replace hB := old_trans hB hb2
    clear k0 k1 k2 c0 c1 gp0 gp1 gp2 gp3 gp4
    obtain ⟨n10, n11, n12⟩ := id N1
    obtain ⟨n20, n21, n22⟩ := id N2
    go_wp2
    have P1 := (N1.set (.slice none 0 0)).aside (w.heap.size + 1 + 1 + 1) (by omega) (.slice none 0 0)
    have P2 := (N2.aside (w.heap.size + 1 + 1) (by omega) (.slice none 0 0)).set (.slice none 0 0)
    have hBf := Below.aside (Below.aside hB (w.heap.size + 1 + 1) (by omega) (.slice none 0 0)) (w.heap.size + 1 + 1 + 1) (by omega) (.slice none 0 0)
    refine bodyPost_ret (v := .tuple #[.agg #[.slice none 0 0], .agg #[.slice none 0 0], .bool false]) ?_ rfl ⟨BR2.no _ _ _ _, hBf⟩
    simp [results, Try.results24, go_sem, P1.1, P2.1]
  · rw [hr2] at FV
    obtain ⟨hf1, hf2⟩ := hf hr2
    have F1 := hd (fits_set hfp k hf1)
    have F2 := hd (fits_set hfp k hf2)
    have B1 := hd (fun W (h : Below w.heap.size w W) => sWith (some ⟨b, off, none⟩) cap k ps x1 y1 W (hR.old h) hk hl)
    have B2 := hd (fun W (h : Below w.heap.size w W) => sWith (some ⟨b, off, none⟩) cap k ps x2 y2 W (hR.old h) hk hl)
    clear hf1 hf2
    go_enter Try.func24, Try.ntmps24
    go_wp2_with fail
    refine (OK.out _ hB).mono ?_
    rintro ev w1 ⟨rfl, hb1⟩
    replace K := K.later hb1
    replace N1 := N1.later hb1
    replace N2 := N2.later hb1
    replace hB := old_trans hB hb1
    replace GP := GP.later hb1
    obtain ⟨gp0, gp1, gp2, gp3, gp4⟩ := id GP
    obtain ⟨b', off', x', y', e', -, hx', -, c0, c1⟩ := (hR.old hB).at hk
    injection e' with e'; injection e' with e1 e2; subst e1 e2
    rw [hx] at hx'; injection hx' with e1 e2; subst e1 e2
    clear k0 k1 k2
    obtain ⟨k0, k1, k2⟩ := id K
    have k0n := Nat.ne_of_lt k2
    have k0o := Nat.ne_of_gt k2
    have gpn := Nat.ne_of_lt gp4
    have gpo := Nat.ne_of_gt gp4
    have hb0 : b < w1.heap.size := Nat.lt_of_lt_of_le hbl hb1.size
    have hbn := Nat.ne_of_lt hb0
    have hbo := Nat.ne_of_gt hb0
    have k0n' := Nat.ne_of_lt (Nat.lt_add_right 1 k2)
    have k0o' := Nat.ne_of_gt (Nat.lt_add_right 1 k2)
    have gpn' := Nat.ne_of_lt (Nat.lt_add_right 1 gp4)
    have gpo' := Nat.ne_of_gt (Nat.lt_add_right 1 gp4)
    have hbn' := Nat.ne_of_lt (Nat.lt_add_right 1 hb0)
    have hbo' := Nat.ne_of_gt (Nat.lt_add_right 1 hb0)
    rw [show pair2V true x1 y1 x2 y2 = .tuple #[.agg #[.int .i64 x1, .int .i64 y1], .agg #[.int .i64 x2, .int .i64 y2], .bool true] from rfl] at FV
    go_upto_region 3 with fail
    go_cut [11, 12, 13] (fun s s' t wx => ∃ wC, wC = wx ∧ TwoP w1 wC s s' t true x1 y1 x2 y2)
    case first =>
      go_wp2_with fail
      go_region_held3 (fun w' => w'.cell? ⟨w.heap.size, 0, none⟩ = some (.slice (some ⟨b, off, none⟩) ps.length cap) ∧ w'.cell? ⟨b, off + k * 2, none⟩ = some (.int .i64 x) ∧ w'.cell? ⟨b, off + k * 2 + 1, none⟩ = some (.int .i64 y) ∧ w'.cell? ⟨w.heap.size + 1, 0, none⟩ = some (.int .i64 gc) ∧ w'.cell? ⟨w.heap.size + 1, 1, none⟩ = some (.int .i64 gd)) (go_keep) (first | (go_at_call 60; refine (FV.out _ (by repeat (first | with_reducible exact hB | with_reducible exact Below.refl _ _ | with_reducible refine Below.drew ?_ | with_reducible refine old_alloc ?_ _ | with_reducible refine old_trans ?_ (by with_reducible assumption)))).mono ?_; rintro e w2 ⟨rfl, hb2⟩; have z2 := hb2.size; have hz2 : Below w1.heap.size w1 w2 := (by repeat (first | with_reducible exact Below.refl _ _ | with_reducible refine Below.drew ?_ | ((with_reducible refine Below.setCell ?_ ?_ _); rotate_left; (focus (first | (simp; done) | omega | (simp; omega)))) | with_reducible refine old_alloc ?_ _ | with_reducible refine old_trans ?_ (by with_reducible assumption))); have k0 := cell_later hz2 k0; have c0 := cell_later hz2 c0; have c1 := cell_later hz2 c1; have gp0 := cell_later hz2 gp0; have gp1 := cell_later hz2 gp1; (first | (have N := ((Cel2.made _ _ rfl (.int .i64 0) (.int .i64 0) 42).alloc (.cells #[.int .i64 0, .int .i64 0] 42)).later hb2; have O := (Cel2.made _ _ rfl (.int .i64 0) (.int .i64 0) 42).later hb2; (try simp only [World.size_alloc] at N); (try simp only [World.size_alloc] at O); have nn0 := N.1; have nn1 := N.2.1; have nn2 := N.2.2.1; have nn3 := N.2.2.2.1; have nnz := N.2.2.2.2; have nnn := Nat.ne_of_lt nnz; have nno := Nat.ne_of_gt nnz; have oo0 := O.1; have oo1 := O.2.1; have oo2 := O.2.2.1; have oo3 := O.2.2.2.1; have ooz := O.2.2.2.2; have oon := Nat.ne_of_lt ooz; have ooo := Nat.ne_of_gt ooz) | (have N := (Cel2.made _ _ rfl (.int .i64 0) (.int .i64 0) 42).later hb2; (try simp only [World.size_alloc] at N); have nn0 := N.1; have nn1 := N.2.1; have nn2 := N.2.2.1; have nn3 := N.2.2.2.1; have nnz := N.2.2.2.2; have nnn := Nat.ne_of_lt nnz; have nno := Nat.ne_of_gt nnz) | (have N := ((Cel2.made _ _ rfl (.int .i64 0) (.int .i64 0) 42).alloc (.cells #[.int .i64 0, .int .i64 0] 42)).drew.later hb2; have O := (Cel2.made _ _ rfl (.int .i64 0) (.int .i64 0) 42).drew.later hb2; (try simp only [World.size_alloc] at N); (try simp only [World.size_alloc] at O); have nn0 := N.1; have nn1 := N.2.1; have nn2 := N.2.2.1; have nn3 := N.2.2.2.1; have nnz := N.2.2.2.2; have nnn := Nat.ne_of_lt nnz; have nno := Nat.ne_of_gt nnz; have oo0 := O.1; have oo1 := O.2.1; have oo2 := O.2.2.1; have oo3 := O.2.2.2.1; have ooz := O.2.2.2.2; have oon := Nat.ne_of_lt ooz; have ooo := Nat.ne_of_gt ooz) | (have N := (Cel2.made _ _ rfl (.int .i64 0) (.int .i64 0) 42).drew.later hb2; (try simp only [World.size_alloc] at N); have nn0 := N.1; have nn1 := N.2.1; have nn2 := N.2.2.1; have nn3 := N.2.2.2.1; have nnz := N.2.2.2.2; have nnn := Nat.ne_of_lt nnz; have nno := Nat.ne_of_gt nnz) | skip)))
      all_goals
        go_wp2_with fail
        go_meet
        exact ⟨_, rfl, _, _, rfl, rfl, rfl, (by repeat (first | with_reducible exact N | with_reducible exact O | with_reducible exact Cel2.made _ _ rfl _ _ _ | (with_reducible refine Cel2.made _ _ ?_ _ _ _; (simp; done)) | with_reducible refine Cel2.stored (u := .int .i64 0) (v := .int .i64 0) ?_ _ _ | with_reducible refine Cel2.drew ?_ | (with_reducible refine Cel2.others ?_ _ ?_ _ _; rotate_left; (focus (first | omega | (simp; omega)))) | with_reducible refine Cel2.alloc ?_ _)), (by repeat (first | with_reducible exact N | with_reducible exact O | with_reducible exact Cel2.made _ _ rfl _ _ _ | (with_reducible refine Cel2.made _ _ ?_ _ _ _; (simp; done)) | with_reducible refine Cel2.stored (u := .int .i64 0) (v := .int .i64 0) ?_ _ _ | with_reducible refine Cel2.drew ?_ | (with_reducible refine Cel2.others ?_ _ ?_ _ _; rotate_left; (focus (first | omega | (simp; omega)))) | with_reducible refine Cel2.alloc ?_ _)), (by first | omega | (simp only [World.size_alloc]; omega) | (simp; omega) | (simp at *; omega)), (by first | omega | (simp only [World.size_alloc]; omega) | (simp; omega) | (simp at *; omega)), (by first | omega | (simp only [World.size_alloc]; omega) | (simp; omega) | (simp at *; omega)), (by repeat (first | with_reducible exact Below.refl _ _ | with_reducible refine Below.drew ?_ | ((with_reducible refine Below.setCell ?_ ?_ _); rotate_left; (focus (first | (simp; done) | omega | (simp; omega)))) | with_reducible refine old_alloc ?_ _ | with_reducible refine old_trans ?_ (by with_reducible assumption)))⟩
    case rest =>
    obtain ⟨wC, hwC, bx, cx, hs1, hs2, hs3, X, Y, gx, gy, nxy, hb2⟩ := hcut
    subst hwC hs1 hs2 hs3
    clear k0n k0o gpn gpo hbn hbo k0n' k0o' gpn' gpo' hbn' hbo'
    clear k0 k1 k2 c0 c1 gp0 gp1 gp2 gp3 gp4
    have K3 := K.later hb2
    have M1 := N1.later hb2
    have M2 := N2.later hb2
    have Q1 := X
    have Q2 := Y
    have hB3 := old_trans hB hb2
    have m1l := N1.2.2
    have m2l := N2.2.2
    have z9 := hb2.size
    have d1 : w.heap.size + 1 + 1 ≠ bx := by omega
    have d3 : w.heap.size + 1 + 1 + 1 ≠ bx := by omega
    have d2 : w.heap.size + 1 + 1 ≠ cx := by omega
    have d4 : w.heap.size + 1 + 1 + 1 ≠ cx := by omega
    have d5 : w.heap.size ≠ bx := by omega
    have d9 : w.heap.size ≠ cx := by omega
    have d6 : bx ≠ w.heap.size + 1 + 1 := by omega
    have d7 : bx ≠ w.heap.size + 1 + 1 + 1 := by omega
    have d8 : bx ≠ w.heap.size := by omega
    have e6 : cx ≠ w.heap.size + 1 + 1 := by omega
    have e7 : cx ≠ w.heap.size + 1 + 1 + 1 := by omega
    have e8 : cx ≠ w.heap.size := by omega
    have nxy' := Ne.symm nxy
    have d10 : w.heap.size ≠ w.heap.size + 1 + 1 := by omega
    have d13 : w.heap.size + 1 + 1 ≠ w.heap.size := by omega
    have d14 : w.heap.size + 1 + 1 + 1 ≠ w.heap.size := by omega
    have d15 : w.heap.size + 1 + 1 + 1 ≠ w.heap.size + 1 + 1 := by omega
    have d11 : w.heap.size ≠ w.heap.size + 1 + 1 + 1 := by omega
    have d12 : w.heap.size + 1 + 1 ≠ w.heap.size + 1 + 1 + 1 := by omega
    clear K N1 N2 hB X Y
    generalize hp2 : w.heap.size + 1 + 1 + 1 = p2 at *
    generalize hp1 : w.heap.size + 1 + 1 = p1 at *
    obtain ⟨k0, k1, k2⟩ := id K3
    obtain ⟨q0, q1, q2, q3, q4⟩ := id Q1
    obtain ⟨r0, r1, r2, r3, r4⟩ := id Q2
    obtain ⟨u0, u1, u2⟩ := id M1
    obtain ⟨v0, v1, v2⟩ := id M2
    go_wp2_with fail
    go_region_held3 (fun w' => w'.cell? ⟨w.heap.size, 0, none⟩ = some (.slice (some ⟨b, off, none⟩) ps.length cap) ∧ w'.cell? ⟨bx, 0, none⟩ = some (.int .i64 x1) ∧ w'.cell? ⟨bx, 1, none⟩ = some (.int .i64 y1) ∧ w'.cell? ⟨cx, 0, none⟩ = some (.int .i64 x2) ∧ w'.cell? ⟨cx, 1, none⟩ = some (.int .i64 y2)) (go_keep) (first | (go_at_call_of 56 (Value.agg #[.int .i64 x1, .int .i64 y1]); refine (B1.out _ (Below.drew hB3)).mono ?_; rintro ev w4 ⟨⟨g1, cp1, rfl, gg1, gc1, gm1, G1⟩, hb4⟩; have K4 := K3.drew.later hb4; have Q14 := Q1.drew.later hb4; have Q24 := Q2.drew.later hb4; have M14 := M1.drew.later hb4; have M24 := M2.drew.later hb4; have hB4 := old_trans (Below.drew hB3) hb4; obtain ⟨k40, k41, k42⟩ := id K4; obtain ⟨q40, q41, q42, q43, q44⟩ := id Q14; obtain ⟨r40, r41, r42, r43, r44⟩ := id Q24) | (go_at_call_of 56 (Value.agg #[.int .i64 x2, .int .i64 y2]); refine (B2.out _ hB4).mono ?_; rintro ev w5 ⟨⟨g2, cp2, rfl, gg2, gc2, gm2, G2⟩, hb5⟩; have K5 := K4.later hb5; have Q15 := Q14.later hb5; have Q25 := Q24.later hb5; have M15 := M14.later hb5; have M25 := M24.later hb5; have hB5 := old_trans hB4 hb5; obtain ⟨k50, k51, k52⟩ := id K5; obtain ⟨q50, q51, q52, q53, q54⟩ := id Q15; obtain ⟨r50, r51, r52, r53, r54⟩ := id Q25; obtain ⟨u50, u51, u52⟩ := id M15; obtain ⟨v50, v51, v52⟩ := id M25; have kz := ((K5.aside (p1) (by omega) (.slice (some ⟨g1, 0, none⟩) ps.length cp1)).aside (p2) (by omega) (.slice (some ⟨g2, 0, none⟩) ps.length cp2)).1))
    all_goals
      have s4 := hb4.size
      have O1 : OB w5 w.heap.size (some ⟨g1, 0, none⟩) cp1 (ps.set k (x1, y1)) := ⟨F1.out, by simpa using gc1, gm1, .inr ⟨g1, rfl, by simp at gg1; omega, G1.old hb5⟩⟩
      have O2 : OB w5 w.heap.size (some ⟨g2, 0, none⟩) cp2 (ps.set k (x2, y2)) := ⟨F2.out, by simpa using gc2, gm2, .inr ⟨g2, rfl, by simp at gg1 gg2; omega, G2⟩⟩
      have hg1 : p2 < g1 := by simp at gg1; omega
      have hg1' := G1.1
      have hg2 : g1 < g2 := by omega
      have O1' := (O1.set (p1) (fun q e => by injection e with e; subst e; show g1 ≠ _; omega) (.slice (some ⟨g1, 0, none⟩) ps.length cp1)).set (p2) (fun q e => by injection e with e; subst e; show g1 ≠ _; omega) (.slice (some ⟨g2, 0, none⟩) ps.length cp2)
      have O2' := (O2.set (p1) (fun q e => by injection e with e; subst e; show g2 ≠ _; omega) (.slice (some ⟨g1, 0, none⟩) ps.length cp1)).set (p2) (fun q e => by injection e with e; subst e; show g2 ≠ _; omega) (.slice (some ⟨g2, 0, none⟩) ps.length cp2)
      have P1 := (M15.set (.slice (some ⟨g1, 0, none⟩) ps.length cp1)).aside (p2) (by omega) (.slice (some ⟨g2, 0, none⟩) ps.length cp2)
      have P2 := (M25.aside (p1) (by omega) (.slice (some ⟨g1, 0, none⟩) ps.length cp1)).set (.slice (some ⟨g2, 0, none⟩) ps.length cp2)
      have hBf := Below.aside (Below.aside hB5 (p1) (by omega) (.slice (some ⟨g1, 0, none⟩) ps.length cp1)) (p2) (by omega) (.slice (some ⟨g2, 0, none⟩) ps.length cp2)
      have hY := BR2.yes O1' O2' (by omega)
      rw [List.length_set, List.length_set] at hY
      go_wp2
      refine bodyPost_ret (v := .tuple #[.agg #[.slice (some ⟨g1, 0, none⟩) ps.length cp1], .agg #[.slice (some ⟨g2, 0, none⟩) ps.length cp2], .bool true]) ?_ rfl ⟨hY, hBf⟩
      simp [results, Try.results24, go_sem, P1.1, P2.1]
set_option maxHeartbeats 2000000 in
theorem iCut1 (wd lo hi gc gd : Int) (l1 : -9223372036854775808 ≤ lo) (l2 : lo ≤ 9223372036854775807) (k1 : -9223372036854775808 ≤ hi) (k2 : hi ≤ 9223372036854775807) (g1 : -9223372036854775808 ≤ gc ∧ gc ≤ 9223372036854775807) (g2 : -9223372036854775808 ≤ gd ∧ gd ≤ 9223372036854775807) (B B' : Nat) (w : World) (hB : w.cell? ⟨B, 0, none⟩ = some (.int .i64 wd)) (hBl : B < w.heap.size) (hQ : w.cell? ⟨B', 0, none⟩ = some (.int .i64 gc) ∧ w.cell? ⟨B', 1, none⟩ = some (.int .i64 gd)) (hQl : B' < w.heap.size) :
    Calls Try.prog 58 #[.agg #[.int .i64 lo, .int .i64 hi], .pointer (some ⟨B, 0, none⟩), .pointer (some ⟨B', 0, none⟩)] w fun e w' => e = .returned (cutV wd lo hi gc gd) ∧ Below w.heap.size w w' := by
  have E := hd (iPairCut wd lo hi gc gd ⟨l1, l2⟩ ⟨k1, k2⟩ g1 g2)
  have hBe : Below w.heap.size w (((w.alloc (.cells #[.int .i64 lo, .int .i64 hi] 42)).alloc (.cells #[.int .i64 0, .int .i64 0] 42)).alloc (.cells #[.int .i64 0, .int .i64 0] 42)) := (by repeat (first | exact Below.refl _ _ | refine Below.drew ?_ | refine old_alloc ?_ _ | refine old_trans ?_ (by assumption)))
  have N1 : Cel2 (((w.alloc (.cells #[.int .i64 lo, .int .i64 hi] 42)).alloc (.cells #[.int .i64 0, .int .i64 0] 42)).alloc (.cells #[.int .i64 0, .int .i64 0] 42)) (w.heap.size + 1) (.int .i64 0) (.int .i64 0) := (Cel2.made _ _ (by simp) _ _ _).alloc _
  have N2 : Cel2 (((w.alloc (.cells #[.int .i64 lo, .int .i64 hi] 42)).alloc (.cells #[.int .i64 0, .int .i64 0] 42)).alloc (.cells #[.int .i64 0, .int .i64 0] 42)) (w.heap.size + 1 + 1) (.int .i64 0) (.int .i64 0) := Cel2.made _ _ (by simp) _ _ _
  have K : Cel2 (((w.alloc (.cells #[.int .i64 lo, .int .i64 hi] 42)).alloc (.cells #[.int .i64 0, .int .i64 0] 42)).alloc (.cells #[.int .i64 0, .int .i64 0] 42)) w.heap.size (.int .i64 lo) (.int .i64 hi) := ((Cel2.made _ _ rfl _ _ _).alloc _).alloc _
  have hc := (hBe.cell (p := ⟨B, 0, none⟩) hBl).trans hB
  have hc1 := (hBe.cell (p := ⟨B', 0, none⟩) hQl).trans hQ.1
  have hc2 := (hBe.cell (p := ⟨B', 1, none⟩) hQl).trans hQ.2
  have key : ∀ (A1 A2 A3 A4 : Int) (rr : Bool), cutV wd lo hi gc gd = .tuple #[.agg #[.int .i64 A1, .int .i64 A2], .agg #[.int .i64 A3, .int .i64 A4], .bool rr] → Calls Try.prog 58 #[.agg #[.int .i64 lo, .int .i64 hi], .pointer (some ⟨B, 0, none⟩), .pointer (some ⟨B', 0, none⟩)] w fun e w' => e = .returned (cutV wd lo hi gc gd) ∧ Below w.heap.size w w' := by
    intro A1 A2 A3 A4 rr hv
    rw [hv] at E ⊢
    clear hv
    go_enter Try.func58, Try.ntmps58
    generalize hW : (((w.alloc (.cells #[.int .i64 lo, .int .i64 hi] 42)).alloc (.cells #[.int .i64 0, .int .i64 0] 42)).alloc (.cells #[.int .i64 0, .int .i64 0] 42)) = W at *
    obtain ⟨q0, q1, q2, q3, q4⟩ := id K
    go_wp2_with fail
    refine (E.out _).mono ?_
    rintro e w1 ⟨rfl, hb1⟩
    replace N1 := N1.later hb1
    replace N2 := N2.later hb1
    have hB1 := old_trans hBe hb1
    obtain ⟨n0, n1, n2, n3, n4⟩ := id N1
    obtain ⟨m0, m1, m2, m3, m4⟩ := id N2
    go_wp2
    have P1 := (N1.stored (.int .i64 A1) (.int .i64 A2)).others (w.heap.size + 1 + 1) (by omega) (.int .i64 A3) (.int .i64 A4)
    have P2 := (N2.others (w.heap.size + 1) (by omega) (.int .i64 A1) (.int .i64 A2)).stored (.int .i64 A3) (.int .i64 A4)
    have hBf := (((hB1.setCell (p := ⟨w.heap.size + 1, 0, none⟩) (by simp) (.int .i64 A1)).setCell (p := ⟨w.heap.size + 1, 1, none⟩) (by simp) (.int .i64 A2)).setCell (p := ⟨w.heap.size + 1 + 1, 0, none⟩) (by simp; omega) (.int .i64 A3)).setCell (p := ⟨w.heap.size + 1 + 1, 1, none⟩) (by simp; omega) (.int .i64 A4)
    refine bodyPost_ret (v := .tuple #[.agg #[.int .i64 A1, .int .i64 A2], .agg #[.int .i64 A3, .int .i64 A4], .bool rr]) ?_ rfl ⟨rfl, hBf⟩
    simp [results, Try.results58, go_sem, P1.1, P1.2.1, P2.1, P2.2.1]
  unfold cutV at key ⊢
  by_cases hgp : gapI gd hi < gapI lo gc
  · rw [if_pos hgp] at key ⊢
    rcases Bool.eq_false_or_eq_true (cutB wd lo hi gc gd) with hr | hr
    · exact key _ _ _ _ true (by rw [hr]; rfl)
    · exact key 0 0 0 0 false (by rw [hr]; rfl)
  · rw [if_neg hgp] at key ⊢
    rcases Bool.eq_false_or_eq_true (cutB wd lo hi gc gd) with hr | hr
    · exact key _ _ _ _ true (by rw [hr]; rfl)
    · exact key 0 0 0 0 false (by rw [hr]; rfl)
set_option maxRecDepth 100000 in
set_option maxHeartbeats 4000000 in
theorem iCutG (wd at_ gc gd : Int) (a : Option Addr) (cap : Nat) (ps : List (Int × Int)) (r2 : Bool) (x1 y1 x2 y2 : Int) (w : World) (hR : InRow w a ps.length cap ps) (hl : ps.length ≤ 1048576)
    (hG : ∀ (k : Nat) (W : World), (k : Int) = at_ → k < ps.length → W.cell? ⟨w.heap.size, 0, none⟩ = some (.int .i64 wd) → w.heap.size < W.heap.size → (W.cell? ⟨w.heap.size + 1 + 1, 0, none⟩ = some (.int .i64 gc) ∧ W.cell? ⟨w.heap.size + 1 + 1, 1, none⟩ = some (.int .i64 gd)) → w.heap.size + 1 + 1 < W.heap.size → Calls Try.prog 58 #[.agg #[.int .i64 (ps.getD k (0, 0)).1, .int .i64 (ps.getD k (0, 0)).2], .pointer (some ⟨w.heap.size, 0, none⟩), .pointer (some ⟨w.heap.size + 1 + 1, 0, none⟩)] W fun e W' => e = .returned (pair2V r2 x1 y1 x2 y2) ∧ Below W.heap.size W W')
    (hf : r2 = true → fit4 x1 y1 x2 y2) :
    Calls Try.prog 23 #[.int .i64 wd, .agg #[.slice a ps.length cap], .int .i64 at_, .agg #[.int .i64 gc, .int .i64 gd]] w fun e w' => BR2 w.heap.size w' e (inB wd at_ ps && r2) (ps.set at_.toNat (x1, y1)) (ps.set at_.toNat (x2, y2)) ∧ Below w.heap.size w w' := by
  have hB : Below w.heap.size w (((((w.alloc (.cells #[.int .i64 wd] 3)).alloc (.cells #[.slice a ps.length cap] 25)).alloc (.cells #[.int .i64 gc, .int .i64 gd] 42)).alloc (.cells #[.slice none 0 0] 25)).alloc (.cells #[.slice none 0 0] 25)) := (by repeat (first | exact Below.refl _ _ | refine Below.drew ?_ | refine old_alloc ?_ _ | refine old_trans ?_ (by assumption)))
  have C : Cel1 (((((w.alloc (.cells #[.int .i64 wd] 3)).alloc (.cells #[.slice a ps.length cap] 25)).alloc (.cells #[.int .i64 gc, .int .i64 gd] 42)).alloc (.cells #[.slice none 0 0] 25)).alloc (.cells #[.slice none 0 0] 25)) w.heap.size (.int .i64 wd) := ((((Cel1.made w _ rfl _ _).alloc _).alloc _).alloc _).alloc _
  have K : Cel1 (((((w.alloc (.cells #[.int .i64 wd] 3)).alloc (.cells #[.slice a ps.length cap] 25)).alloc (.cells #[.int .i64 gc, .int .i64 gd] 42)).alloc (.cells #[.slice none 0 0] 25)).alloc (.cells #[.slice none 0 0] 25)) (w.heap.size + 1) (.slice a ps.length cap) := (((Cel1.made _ _ (by simp) _ _).alloc _).alloc _).alloc _
  have GP : Cel2 (((((w.alloc (.cells #[.int .i64 wd] 3)).alloc (.cells #[.slice a ps.length cap] 25)).alloc (.cells #[.int .i64 gc, .int .i64 gd] 42)).alloc (.cells #[.slice none 0 0] 25)).alloc (.cells #[.slice none 0 0] 25)) (w.heap.size + 1 + 1) (.int .i64 gc) (.int .i64 gd) := ((Cel2.made _ _ (by simp) _ _ _).alloc _).alloc _
  have N1 : Cel1 (((((w.alloc (.cells #[.int .i64 wd] 3)).alloc (.cells #[.slice a ps.length cap] 25)).alloc (.cells #[.int .i64 gc, .int .i64 gd] 42)).alloc (.cells #[.slice none 0 0] 25)).alloc (.cells #[.slice none 0 0] 25)) (w.heap.size + 1 + 1 + 1) (.slice none 0 0) := (Cel1.made _ _ (by simp) _ _).alloc _
  have N2 : Cel1 (((((w.alloc (.cells #[.int .i64 wd] 3)).alloc (.cells #[.slice a ps.length cap] 25)).alloc (.cells #[.int .i64 gc, .int .i64 gd] 42)).alloc (.cells #[.slice none 0 0] 25)).alloc (.cells #[.slice none 0 0] 25)) (w.heap.size + 1 + 1 + 1 + 1) (.slice none 0 0) := Cel1.made _ _ (by simp) _ _
  have hs : ((((((w.alloc (.cells #[.int .i64 wd] 3)).alloc (.cells #[.slice a ps.length cap] 25)).alloc (.cells #[.int .i64 gc, .int .i64 gd] 42)).alloc (.cells #[.slice none 0 0] 25)).alloc (.cells #[.slice none 0 0] 25))).heap.size = w.heap.size + 1 + 1 + 1 + 1 + 1 := by simp
  have R := hR.old hB
  generalize hW : (((((w.alloc (.cells #[.int .i64 wd] 3)).alloc (.cells #[.slice a ps.length cap] 25)).alloc (.cells #[.int .i64 gc, .int .i64 gd] 42)).alloc (.cells #[.slice none 0 0] 25)).alloc (.cells #[.slice none 0 0] 25)) = V0 at *
  have PT := hd (iParted wd at_ a cap ps 58 #[.pointer (some ⟨w.heap.size, 0, none⟩), .pointer (some ⟨w.heap.size + 1 + 1, 0, none⟩)] r2 x1 y1 x2 y2 V0 R hl (fun _ _ => by kernel_rfl) (fun k W h1 h2 h3 => by
    have c := C.later h3
    have gp := GP.later h3
    exact hG k W h1 h2 c.1 c.2.2 ⟨gp.1, gp.2.1⟩ gp.2.2.2.2) hf)
  generalize (inB wd at_ ps && r2) = rr at *
  generalize ps.set at_.toNat (x1, y1) = l1 at *
  generalize ps.set at_.toNat (x2, y2) = l2 at *
  obtain ⟨c0, c1, c2⟩ := id C
  obtain ⟨k0, k1, k2⟩ := id K
  go_enter Try.func23, Try.ntmps23
  go_wp2_with fail
  refine PT.out.mono ?_
  rintro e w1 ⟨⟨av, cv, av2, cv2, rfl, O1, O2, sep⟩, hb1⟩
  replace N1 := N1.later hb1
  replace N2 := N2.later hb1
  have hB1 := old_trans hB hb1
  obtain ⟨n0, n1, n2⟩ := id N1
  obtain ⟨m0, m1, m2⟩ := id N2
  obtain ⟨L1, hL1⟩ : ∃ L1, L1 = (resL rr l1).length := ⟨_, rfl⟩
  obtain ⟨L2, hL2⟩ : ∃ L2, L2 = (resL rr l2).length := ⟨_, rfl⟩
  rw [← hL1, ← hL2]
  have hst := BR2.stored (n0 := w.heap.size) O1 O2 (by omega) (w.heap.size + 1 + 1 + 1) (w.heap.size + 1 + 1 + 1 + 1) (by omega) (by omega) (.slice av L1 cv) (.slice av2 L2 cv2)
  have P1 := (N1.set (.slice av L1 cv)).aside (w.heap.size + 1 + 1 + 1 + 1) (by omega) (.slice av2 L2 cv2)
  have P2 := (N2.aside (w.heap.size + 1 + 1 + 1) (by omega) (.slice av L1 cv)).set (.slice av2 L2 cv2)
  have hBf := Below.aside (Below.aside hB1 (w.heap.size + 1 + 1 + 1) (by omega) (.slice av L1 cv)) (w.heap.size + 1 + 1 + 1 + 1) (by omega) (.slice av2 L2 cv2)
  have hfin : Hid (∀ W, OB W w.heap.size av cv (resL rr l1) ∧ OB W w.heap.size av2 cv2 (resL rr l2) → BR2 w.heap.size W (.returned (.tuple #[.agg #[.slice av L1 cv], .agg #[.slice av2 L2 cv2], .bool rr])) rr l1 l2) := fun W h => ⟨av, cv, av2, cv2, by rw [hL1, hL2], h.1, h.2, sep⟩
  clear hL1 hL2
  go_wp2
  refine bodyPost_ret (v := .tuple #[.agg #[.slice av L1 cv], .agg #[.slice av2 L2 cv2], .bool rr]) ?_ rfl ⟨hfin.out _ hst, hBf⟩
  simp [results, Try.results23, go_sem, P1.1, P2.1]
def cutR (wd at_ gc gd : Int) (ps : List (Int × Int)) : Bool := inB wd at_ ps && cutB wd (splX ps at_) (splY ps at_) gc gd
def cutHi (at_ gc gd : Int) (ps : List (Int × Int)) : Bool := decide (gapI gd (splY ps at_) < gapI (splX ps at_) gc)
def cutA (at_ gc gd : Int) (ps : List (Int × Int)) : List (Int × Int) := ps.set at_.toNat (if cutHi at_ gc gd ps then (gd, splY ps at_) else (splX ps at_, gc))
def cutZ (at_ gc gd : Int) (ps : List (Int × Int)) : List (Int × Int) := ps.set at_.toNat (if cutHi at_ gc gd ps then (splX ps at_, gc) else (gd, splY ps at_))
theorem cut_form (wd at_ gc gd : Int) (ps : List (Int × Int)) : ∃ x1 y1 x2 y2, cutV wd (splX ps at_) (splY ps at_) gc gd = pair2V (cutB wd (splX ps at_) (splY ps at_) gc gd) x1 y1 x2 y2 ∧ cutA at_ gc gd ps = ps.set at_.toNat (x1, y1) ∧ cutZ at_ gc gd ps = ps.set at_.toNat (x2, y2) ∧ ((x1 = gd ∧ y1 = splY ps at_ ∧ x2 = splX ps at_ ∧ y2 = gc) ∨ (x1 = splX ps at_ ∧ y1 = gc ∧ x2 = gd ∧ y2 = splY ps at_)) := by
  unfold cutV cutA cutZ cutHi
  by_cases h : gapI gd (splY ps at_) < gapI (splX ps at_) gc
  · rw [if_pos h, decide_eq_true h]
    exact ⟨_, _, _, _, rfl, rfl, rfl, .inl ⟨rfl, rfl, rfl, rfl⟩⟩
  · rw [if_neg h, decide_eq_false h]
    exact ⟨_, _, _, _, rfl, rfl, rfl, .inr ⟨rfl, rfl, rfl, rfl⟩⟩
theorem sBoxCutO (wd at_ gc gd : Int) (g1 : -9223372036854775808 ≤ gc ∧ gc ≤ 9223372036854775807) (g2 : -9223372036854775808 ≤ gd ∧ gd ≤ 9223372036854775807) (a : Option Addr) (cap : Nat) (ps : List (Int × Int)) (w : World) (hR : InRow w a ps.length cap ps) (hl : ps.length ≤ 1048576) :
    Calls Try.prog 24 #[.int .i64 wd, .agg #[.slice a ps.length cap], .int .i64 at_, .agg #[.int .i64 gc, .int .i64 gd]] w fun e w' => BR2 w.heap.size w' e (cutR wd at_ gc gd ps) (cutA at_ gc gd ps) (cutZ at_ gc gd ps) ∧ Below w.heap.size w w' := by
  have hf := fits_getD hR.2.2.2.1 at_.toNat
  have hfx : (-9223372036854775808 ≤ splX ps at_ ∧ splX ps at_ ≤ 9223372036854775807) ∧ -9223372036854775808 ≤ splY ps at_ ∧ splY ps at_ ≤ 9223372036854775807 := hf
  obtain ⟨x1, y1, x2, y2, hv, ha, hz, hc⟩ := cut_form wd at_ gc gd ps
  have hf4 : fit4 x1 y1 x2 y2 := by unfold fit4; rcases hc with ⟨rfl, rfl, rfl, rfl⟩ | ⟨rfl, rfl, rfl, rfl⟩ <;> omega
  rw [ha, hz]
  unfold cutR
  refine sCutG wd at_ gc gd a cap ps _ _ _ _ _ w hR hl (fun k W hk hlt hb => ?_) (fun _ => hf4)
  subst hk
  rw [← hv]
  exact sPairCut wd _ _ gc gd hf.1 hf.2 g1 g2 W
theorem iBoxCutO (wd at_ gc gd : Int) (g1 : -9223372036854775808 ≤ gc ∧ gc ≤ 9223372036854775807) (g2 : -9223372036854775808 ≤ gd ∧ gd ≤ 9223372036854775807) (a : Option Addr) (cap : Nat) (ps : List (Int × Int)) (w : World) (hR : InRow w a ps.length cap ps) (hl : ps.length ≤ 1048576) :
    Calls Try.prog 23 #[.int .i64 wd, .agg #[.slice a ps.length cap], .int .i64 at_, .agg #[.int .i64 gc, .int .i64 gd]] w fun e w' => BR2 w.heap.size w' e (cutR wd at_ gc gd ps) (cutA at_ gc gd ps) (cutZ at_ gc gd ps) ∧ Below w.heap.size w w' := by
  have hf := fits_getD hR.2.2.2.1 at_.toNat
  have hfx : (-9223372036854775808 ≤ splX ps at_ ∧ splX ps at_ ≤ 9223372036854775807) ∧ -9223372036854775808 ≤ splY ps at_ ∧ splY ps at_ ≤ 9223372036854775807 := hf
  obtain ⟨x1, y1, x2, y2, hv, ha, hz, hc⟩ := cut_form wd at_ gc gd ps
  have hf4 : fit4 x1 y1 x2 y2 := by unfold fit4; rcases hc with ⟨rfl, rfl, rfl, rfl⟩ | ⟨rfl, rfl, rfl, rfl⟩ <;> omega
  rw [ha, hz]
  unfold cutR
  refine iCutG wd at_ gc gd a cap ps _ _ _ _ _ w hR hl (fun k W hk hlt hc1 hs1 hc2 hs2 => ?_) (fun _ => hf4)
  subst hk
  rw [← hv]
  exact iCut1 wd _ _ gc gd hf.1.1 hf.1.2 hf.2.1 hf.2.2 g1 g2 w.heap.size _ W hc1 hs1 hc2 hs2
end Go.Proofs.Ytpnfkigeagbhpaa
