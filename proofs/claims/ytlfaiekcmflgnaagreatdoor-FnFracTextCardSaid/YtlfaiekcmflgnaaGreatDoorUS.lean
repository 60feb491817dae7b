/- Draws of fractions off a code: an ok fraction; in new memory; nothing that was there is written but the reader. -/
import Derived.Test.YtlfaiekcmflgnaaGreatDoorBN
import Derived.Test.YtlfaiekcmflgnaaGreatDoorFS
import Derived.Test.YtlfaiekcmflgnaaGreatDoorFN
namespace Go.Proofs.YtlfaiekcmflgnaaGreatDoor
open Go.RowKit
set_option linter.unusedVariables false
set_option maxRecDepth 100000

/-- a fraction in new memory -/
def FA2 (w : World) (base : Nat) (e : Ending) (P : Bool → List Int → List Int → Prop) : Prop := ∃ b av cv xs av' cv' ys, e = .returned (.agg #[.bool b, .slice av (List.length xs) cv, .slice av' (List.length ys) cv']) ∧ OI w base av cv xs ∧ OI w base av' cv' ys ∧ Sep av av' ∧ P b xs ys
/-- an ok fraction in new memory -/
def FG (w : World) (base : Nat) (e : Ending) : Prop := FA2 w base e (fun b xs ys => fracOk b xs ys = true)
theorem low_frac {s : Bool} {A B : Nat} (h : lowB A B = true) : fracOk (s && decide (A ≠ 0)) (lowT A B) (lowU A B) = true := by
  have q := lowB_in h
  have hg : Nat.gcd A B ≠ 0 := fun e => q.1 (Nat.gcd_eq_zero_iff.1 e).2
  refine fracOk_mk (natOk_natL (natL_len.1 q.2.1)) (natOk_natL (natL_len.1 q.2.2)) ?_ ?_ ?_
  · intro e
    have e2 : B / Nat.gcd A B = 0 := by
      apply Nat.eq_zero_of_not_pos
      intro hp
      have := natL_length_pos hp
      unfold lowU at e
      omega
    have hd := Nat.gcd_dvd_right A B
    have := Nat.div_mul_cancel hd
    rw [e2] at this
    exact q.1 (by omega)
  · unfold lowT lowU
    rw [val_natL, val_natL]
    exact Nat.coprime_div_gcd_div_gcd (Nat.pos_of_ne_zero hg)
  · rintro ⟨h1, h2⟩
    simp only [Bool.and_eq_true, decide_eq_true_eq] at h1
    have := lowT_pos (B := B) h1.2
    omega
theorem fracOk_int {b : Bool} {m : Nat} (hm : m < 65536) (hb : b = true → m ≠ 0) : fracOk b (natL m) (natL 1) = true := by
  have hl : (natL m).length ≤ 1 := natL_len.2 (by omega)
  refine fracOk_mk (natOk_mk (by omega) (digs_natL _) (topped_natL _)) (natOk_mk (by rw [one_len]; omega) (digs_natL _) (topped_natL _)) (by rw [one_len]; omega) (by rw [val_natL, val_natL]; exact Nat.gcd_one_right m) ?_
  rintro ⟨h1, h2⟩
  have := natL_length_pos (Nat.pos_of_ne_zero (hb h1))
  omega
theorem sFracIntAny (n : Int) (h0 : -100 ≤ n) (h1 : n ≤ 100) (w : World) : Calls Tryz.prog 55 #[.int .i64 n] w fun e w' => FG w' w.heap.size e ∧ Below w.heap.size w w' := by
  by_cases h : 0 ≤ n
  · obtain ⟨m, rfl⟩ := Int.eq_ofNat_of_zero_le h
    refine (sFracIntP m (by omega) w).mono ?_
    rintro e w' ⟨⟨av, cv, av', cv', h2, h3, h4, h5⟩, h6⟩
    exact ⟨⟨_, _, _, _, _, _, _, h2, h3, h4, h5, fracOk_int (by omega) (by simp)⟩, h6⟩
  · obtain ⟨m, hm⟩ := Int.eq_ofNat_of_zero_le (show 0 ≤ -n by omega)
    obtain rfl : n = -(m : Int) := by omega
    refine (sFracIntN m (by omega) (by omega) w).mono ?_
    rintro e w' ⟨⟨av, cv, av', cv', h2, h3, h4, h5⟩, h6⟩
    exact ⟨⟨_, _, _, _, _, _, _, h2, h3, h4, h5, fracOk_int (by omega) (fun _ => by omega)⟩, h6⟩
theorem Cel3.but {w w' : World} {b rb : Nat} {v0 v1 v2 : Value} (h : Cel3 w b v0 v1 v2) (k : But rb w w') (hne : b ≠ rb) : Cel3 w' b v0 v1 v2 := h.kept k.grown (fun e => hne (by injection e))
theorem resGood {W : World} {b : Nat} {v0 v1 v2 : Value} {tmps : Array Value} (h : Cel3 W b v0 v1 v2) (ht : tmps[2]? = some (.pointer (some ⟨b, 0, none⟩))) : (results Tryz.f32 tmps).run Tryz.prog W = .ok (.agg #[v0, v1, v2]) W := by
  obtain ⟨h1, ⟨a0, a1, a2⟩, -⟩ := h
  simp [results, Tryz.results32, go_sem, a0, a1, a2, ht]
theorem Rk.set3 {W : World} {rb k b : Nat} {v0 v1 v2 : Value} (h : Rk W rb k) (hb : rb < b) : Rk (((W.setCell ⟨b, 0, none⟩ v0).setCell ⟨b, 1, none⟩ v1).setCell ⟨b, 2, none⟩ v2) rb k := ((h.far b 0 hb v0).far b 1 hb v1).far b 2 hb v2
theorem But.set3 {rb b : Nat} {a W : World} {v0 v1 v2 : Value} (h : But rb a W) (hb : a.heap.size ≤ b) : But rb a (((W.setCell ⟨b, 0, none⟩ v0).setCell ⟨b, 1, none⟩ v1).setCell ⟨b, 2, none⟩ v2) := ((h.far (p := ⟨b, 0, none⟩) hb v0).far (p := ⟨b, 1, none⟩) hb v1).far (p := ⟨b, 2, none⟩) hb v2
theorem one_list (w : World) (x : Int) (t : TypeId) (hx : -9223372036854775808 ≤ x ∧ x ≤ 9223372036854775807) : OI (w.alloc (.cells #[.int .i64 x] t)) w.heap.size (some ⟨w.heap.size, 0, none⟩) 1 [x] := by
  have hr : IRow (w.alloc (.cells #[.int .i64 x] t)) w.heap.size [x] := ⟨by simp, fun i hi => by
    obtain rfl : i = 0 := by simp at hi; omega
    simp⟩
  exact ⟨fun y hy => by simp at hy; subst hy; exact hx, Nat.le_refl _, by unfold maxLen; simp, .inr ⟨_, rfl, Nat.le_refl _, hr⟩⟩
set_option maxHeartbeats 8000000 in
theorem good_k (rb k : Nat) (w : World) (h : Rk w rb (k + 3000)) :
    Calls Tryz.prog 32 #[.pointer (some ⟨rb, 0, none⟩)] w fun e w' => FG w' w.heap.size e ∧ Rk w' rb k ∧ But rb w w' := by
  have hrl := h.lt
  have K2 := Cel3.new w (.bool false) (.slice none 0 0) (.slice none 0 0) 24
  have B0 : But rb w (w.alloc (.cells #[.bool false, .slice none 0 0, .slice none 0 0] 24)) := (But.refl _ _).alloc _
  have R0 := h.alloc (.cells #[.bool false, .slice none 0 0, .slice none 0 0] 24)
  have hs0 : (w.alloc (.cells #[.bool false, .slice none 0 0, .slice none 0 0] 24)).heap.size = w.heap.size + 1 := by simp
  clear h
  have hpb : w.heap.size ≠ rb := by omega
  go_enter Tryz.func32, Tryz.ntmps32
  go_wp2_with fail
  refine (nat_k rb (k + 2000) _ (R0.mono (by omega))).mono ?_
  rintro e w1 ⟨⟨v, zs, rfl, G, F_, hl_⟩, R1, B1⟩
  have hs1 := B1.size
  obtain ⟨avB, cvB, rfl, OB⟩ := G.oi (digs_fits F_)
  replace OB := OB.mono (show w.heap.size + 1 ≤ (w.alloc (.cells #[.bool false, .slice none 0 0, .slice none 0 0] 24)).heap.size by simp)
  replace K2 := K2.but B1 hpb
  replace B1 := B0.trans B1
  clear R0 B0 F_ hl_ G
  by_cases hz0 : zs.length = 0
  case neg =>
    have hz0' : ((zs.length : Int) == 0) = false := beq_eq_false_iff_ne.2 (by omega)
    go_wp2_with fail
    refine (pick_k rb (k + 1999) _ _ R1 (by decide)).mono ?_
    rintro e w2 ⟨⟨q, ⟨qa, qb⟩, rfl⟩, R2, B2⟩
    replace OB := OB.kept B2.grown (fun q e1 e2 => by injection e2 with e2; have := OB.ge q e1; omega)
    replace K2 := K2.but B2 hpb
    have hs2 := B2.size
    replace B2 := B1.trans B2
    clear R1 B1
    by_cases hq : q = 0
    case neg =>
      have hq' : (q == 0) = false := by simpa using hq
      have RR := R2.mono (show k + 1900 ≤ k + 1999 by omega)
      have BB := B2
      clear R2 B2
      go_wp2_with fail
      refine (pick_k rb (k + 1899) _ _ (RR.mono (by omega)) (by decide)).mono ?_
      rintro e wa ⟨⟨t, ⟨ta, tb⟩, rfl⟩, Ra, Ba⟩
      replace OB := OB.kept Ba.grown (fun q e1 e2 => by injection e2 with e2; have := OB.ge q e1; omega)
      replace K2 := K2.but Ba hpb
      have hsa := Ba.size
      replace Ba := BB.trans Ba
      clear RR BB
      go_wp2_with fail
      refine (nat_k rb (k + 500) _ (Ra.mono (by omega))).mono ?_
      rintro e wb ⟨⟨v, xs, rfl, G, F_, hl_⟩, Rb, Bb⟩
      obtain ⟨avA, cvA, rfl, OA⟩ := G.oi (digs_fits F_)
      replace OB := OB.kept Bb.grown (fun q e1 e2 => by injection e2 with e2; have := OB.ge q e1; omega)
      replace K2 := K2.but Bb hpb
      have hsb := Bb.size
      replace Bb := Ba.trans Bb
      clear Ra Ba G F_ hl_
      have FO := hd (fun tb => sFracOf tb avA _ _ _ cvA _ xs zs wb OA.inI OB.inI)
      try simp only [List.length_singleton] at FO
      clear OA OB
      go_wp2_with fail
      refine (FO.out _).mono ?_
      rintro e wc ⟨⟨av, cv, av', cv', rfl, O1, O2, hS⟩, hbc⟩
      replace K2 := K2.old hbc
      replace Rb := Rb.old hbc
      replace Bb := Bb.trans (But.of hbc)
      have hsc := hbc.size
      clear hbc FO
      generalize hbb : fS (ofB xs zs) (t == 0) (val xs) = bb at *
      generalize htl : fT (ofB xs zs) (val xs) (val zs) = tl at *
      generalize hul : fU (ofB xs zs) (val xs) (val zs) = ul at *
      have hok0 : Hid (ofB xs zs = true → fracOk bb tl ul = true) := fun hk => by
        have h9 := low_frac (s := t == 0) (ofB_low hk)
        rw [← hbb, ← htl, ← hul, hk]
        exact h9
      clear hbb htl hul
      cases hk : ofB xs zs
      · clear hS O1 O2
        go_wp2_with fail
        generalize hwd : wc.alloc _ = wd at *
        have hbd : Below wc.heap.size wc wd := by rw [← hwd]; exact old_alloc (Below.refl _ _) _
        clear hwd
        replace K2 := K2.old hbd
        replace Rb := Rb.old hbd
        replace Bb := Bb.trans (But.of hbd)
        have hsd := hbd.size
        refine (pick_k rb (k + 499) _ _ Rb (by decide)).mono ?_
        rintro e we ⟨⟨u, ⟨ua, ub⟩, rfl⟩, Re, Be⟩
        replace K2 := K2.but Be hpb
        have hse := Be.size
        replace Be := Bb.trans Be
        clear Rb Bb hbd
        go_wp2_with fail
        refine (sFracIntAny _ (by omega) (by omega) _).mono ?_
        rintro e wf ⟨⟨b, a1, c1, ps, a2, c2, qs, rfl, O1, O2, hS, hok⟩, hbf⟩
        have hz := K2.1
        replace K2 := K2.old hbf
        obtain ⟨m1, ⟨m2, m3, m4⟩, m5, m6, m7⟩ := id K2
        have q1 := (oi_set3 (v0 := .bool b) (v1 := .slice a1 ps.length c1) (v2 := .slice a2 qs.length c2) O1 hz).mono (show w.heap.size ≤ _ by omega)
        have q2 := (oi_set3 (v0 := .bool b) (v1 := .slice a1 ps.length c1) (v2 := .slice a2 qs.length c2) O2 hz).mono (show w.heap.size ≤ _ by omega)
        have hF : FG _ w.heap.size (.returned (.agg #[.bool b, .slice a1 ps.length c1, .slice a2 qs.length c2])) := ⟨_, _, _, _, _, _, _, rfl, q1, q2, hS, hok⟩
        have hR := Rk.set3 (v0 := .bool b) (v1 := .slice a1 ps.length c1) (v2 := .slice a2 qs.length c2) ((Re.old hbf).mono (show k ≤ k + 499 by omega)) hrl
        have hBB := But.set3 (v0 := .bool b) (v1 := .slice a1 ps.length c1) (v2 := .slice a2 qs.length c2) (Be.trans (But.of hbf)) (Nat.le_refl w.heap.size)
        clear q1 q2 O1 O2 hS Re Be hbf hk hok hok0
        go_wp2
        exact bodyPost_ret (resGood (K2.setAll (.bool b) (.slice a1 ps.length c1) (.slice a2 qs.length c2)) rfl) rfl ⟨hF, hR, hBB⟩
      have hok := hok0.out hk
      have K4 := Cel3.new wc (.bool bb) (.slice av tl.length cv) (.slice av' ul.length cv') 24
      have hal : Below wc.heap.size wc (wc.alloc (.cells #[.bool bb, .slice av tl.length cv, .slice av' ul.length cv'] 24)) := old_alloc (Below.refl _ _) _
      have hz := K2.1
      have hz2 : w.heap.size ≠ wc.heap.size := by omega
      replace K2 := K2.old hal
      go_upto_region 7 with fail
      generalize wc.alloc (.cells #[.bool bb, .slice av tl.length cv, .slice av' ul.length cv'] 24) = wd at *
      obtain ⟨m1, ⟨m2, m3, m4⟩, m5, m6, m7⟩ := id K2
      obtain ⟨n1, ⟨n2, n3, n4⟩, -⟩ := id K4
      have q1 := (oi_set3 (v0 := .bool bb) (v1 := .slice av tl.length cv) (v2 := .slice av' ul.length cv') (O1.later hal) (show w.heap.size < wb.heap.size by omega)).mono (show w.heap.size ≤ _ by omega)
      have q2 := (oi_set3 (v0 := .bool bb) (v1 := .slice av tl.length cv) (v2 := .slice av' ul.length cv') (O2.later hal) (show w.heap.size < wb.heap.size by omega)).mono (show w.heap.size ≤ _ by omega)
      have hF : FG _ w.heap.size (.returned (.agg #[.bool bb, .slice av tl.length cv, .slice av' ul.length cv'])) := ⟨_, _, _, _, _, _, _, rfl, q1, q2, hS, hok⟩
      have hR := Rk.set3 (v0 := .bool bb) (v1 := .slice av tl.length cv) (v2 := .slice av' ul.length cv') ((Rb.old hal).mono (show k ≤ k + 500 by omega)) hrl
      have hBB := But.set3 (v0 := .bool bb) (v1 := .slice av tl.length cv) (v2 := .slice av' ul.length cv') (Bb.trans (But.of hal)) (Nat.le_refl w.heap.size)
      clear q1 q2 O1 O2 hS Rb Bb hal hk hok hok0
      go_wp2
      exact bodyPost_ret (resGood (K2.setAll (.bool bb) (.slice av tl.length cv) (.slice av' ul.length cv')) rfl) rfl ⟨hF, hR, hBB⟩
    subst hq
    have RX := R2.mono (show k + 1999 ≤ k + 1999 by omega)
    have BX := B2
    clear R2 B2 OB
    go_wp2_with fail
    refine (pick_k rb (k + 1998) _ _ (RX.mono (by omega)) (by decide)).mono ?_
    rintro e w3 ⟨⟨u, ⟨ua, ub⟩, rfl⟩, R3, B3⟩
    replace K2 := K2.but B3 hpb
    have hs3 := B3.size
    replace B3 := BX.trans B3
    have hwu : IntKind.wrap .i64 (1 + u) = 1 + u := by rw [IntKind.wrap_i64]; omega
    have hal3 : Below w3.heap.size w3 (w3.alloc (.cells #[.int .i64 (1 + u)] 3)) := old_alloc (Below.refl _ _) _
    have OB := (one_list w3 (1 + u) 3 ⟨by omega, by omega⟩).mono (show w.heap.size + 1 ≤ w3.heap.size by omega)
    replace K2 := K2.old hal3
    have hs4 := hal3.size
    have RR := (R3.old hal3).mono (show k + 1900 ≤ k + 1998 by omega)
    have BB := B3.trans (But.of hal3)
    clear R3 B3 RX BX hal3
    go_wp2_with fail
    refine (pick_k rb (k + 1899) _ _ (RR.mono (by omega)) (by decide)).mono ?_
    rintro e wa ⟨⟨t, ⟨ta, tb⟩, rfl⟩, Ra, Ba⟩
    replace OB := OB.kept Ba.grown (fun q e1 e2 => by injection e2 with e2; have := OB.ge q e1; omega)
    replace K2 := K2.but Ba hpb
    have hsa := Ba.size
    replace Ba := BB.trans Ba
    clear RR BB
    go_wp2_with fail
    refine (nat_k rb (k + 500) _ (Ra.mono (by omega))).mono ?_
    rintro e wb ⟨⟨v, xs, rfl, G, F_, hl_⟩, Rb, Bb⟩
    obtain ⟨avA, cvA, rfl, OA⟩ := G.oi (digs_fits F_)
    replace OB := OB.kept Bb.grown (fun q e1 e2 => by injection e2 with e2; have := OB.ge q e1; omega)
    replace K2 := K2.but Bb hpb
    have hsb := Bb.size
    replace Bb := Ba.trans Bb
    clear Ra Ba G F_ hl_
    have FO := hd (fun tb => sFracOf tb avA _ _ _ cvA _ xs [1 + u] wb OA.inI OB.inI)
    try simp only [List.length_singleton] at FO
    clear OA OB
    go_wp2_with fail
    refine (FO.out _).mono ?_
    rintro e wc ⟨⟨av, cv, av', cv', rfl, O1, O2, hS⟩, hbc⟩
    replace K2 := K2.old hbc
    replace Rb := Rb.old hbc
    replace Bb := Bb.trans (But.of hbc)
    have hsc := hbc.size
    clear hbc FO
    generalize hbb : fS (ofB xs [1 + u]) (t == 0) (val xs) = bb at *
    generalize htl : fT (ofB xs [1 + u]) (val xs) (val [1 + u]) = tl at *
    generalize hul : fU (ofB xs [1 + u]) (val xs) (val [1 + u]) = ul at *
    have hok0 : Hid (ofB xs [1 + u] = true → fracOk bb tl ul = true) := fun hk => by
      have h9 := low_frac (s := t == 0) (ofB_low hk)
      rw [← hbb, ← htl, ← hul, hk]
      exact h9
    clear hbb htl hul
    cases hk : ofB xs [1 + u]
    · clear hS O1 O2
      go_wp2_with fail
      generalize hwd : wc.alloc _ = wd at *
      have hbd : Below wc.heap.size wc wd := by rw [← hwd]; exact old_alloc (Below.refl _ _) _
      clear hwd
      replace K2 := K2.old hbd
      replace Rb := Rb.old hbd
      replace Bb := Bb.trans (But.of hbd)
      have hsd := hbd.size
      refine (pick_k rb (k + 499) _ _ Rb (by decide)).mono ?_
      rintro e we ⟨⟨u, ⟨ua, ub⟩, rfl⟩, Re, Be⟩
      replace K2 := K2.but Be hpb
      have hse := Be.size
      replace Be := Bb.trans Be
      clear Rb Bb hbd
      go_wp2_with fail
      refine (sFracIntAny _ (by omega) (by omega) _).mono ?_
      rintro e wf ⟨⟨b, a1, c1, ps, a2, c2, qs, rfl, O1, O2, hS, hok⟩, hbf⟩
      have hz := K2.1
      replace K2 := K2.old hbf
      obtain ⟨m1, ⟨m2, m3, m4⟩, m5, m6, m7⟩ := id K2
      have q1 := (oi_set3 (v0 := .bool b) (v1 := .slice a1 ps.length c1) (v2 := .slice a2 qs.length c2) O1 hz).mono (show w.heap.size ≤ _ by omega)
      have q2 := (oi_set3 (v0 := .bool b) (v1 := .slice a1 ps.length c1) (v2 := .slice a2 qs.length c2) O2 hz).mono (show w.heap.size ≤ _ by omega)
      have hF : FG _ w.heap.size (.returned (.agg #[.bool b, .slice a1 ps.length c1, .slice a2 qs.length c2])) := ⟨_, _, _, _, _, _, _, rfl, q1, q2, hS, hok⟩
      have hR := Rk.set3 (v0 := .bool b) (v1 := .slice a1 ps.length c1) (v2 := .slice a2 qs.length c2) ((Re.old hbf).mono (show k ≤ k + 499 by omega)) hrl
      have hBB := But.set3 (v0 := .bool b) (v1 := .slice a1 ps.length c1) (v2 := .slice a2 qs.length c2) (Be.trans (But.of hbf)) (Nat.le_refl w.heap.size)
      clear q1 q2 O1 O2 hS Re Be hbf hk hok hok0
      go_wp2
      exact bodyPost_ret (resGood (K2.setAll (.bool b) (.slice a1 ps.length c1) (.slice a2 qs.length c2)) rfl) rfl ⟨hF, hR, hBB⟩
    have hok := hok0.out hk
    have K4 := Cel3.new wc (.bool bb) (.slice av tl.length cv) (.slice av' ul.length cv') 24
    have hal : Below wc.heap.size wc (wc.alloc (.cells #[.bool bb, .slice av tl.length cv, .slice av' ul.length cv'] 24)) := old_alloc (Below.refl _ _) _
    have hz := K2.1
    have hz2 : w.heap.size ≠ wc.heap.size := by omega
    replace K2 := K2.old hal
    go_upto_region 7 with fail
    generalize wc.alloc (.cells #[.bool bb, .slice av tl.length cv, .slice av' ul.length cv'] 24) = wd at *
    obtain ⟨m1, ⟨m2, m3, m4⟩, m5, m6, m7⟩ := id K2
    obtain ⟨n1, ⟨n2, n3, n4⟩, -⟩ := id K4
    have q1 := (oi_set3 (v0 := .bool bb) (v1 := .slice av tl.length cv) (v2 := .slice av' ul.length cv') (O1.later hal) (show w.heap.size < wb.heap.size by omega)).mono (show w.heap.size ≤ _ by omega)
    have q2 := (oi_set3 (v0 := .bool bb) (v1 := .slice av tl.length cv) (v2 := .slice av' ul.length cv') (O2.later hal) (show w.heap.size < wb.heap.size by omega)).mono (show w.heap.size ≤ _ by omega)
    have hF : FG _ w.heap.size (.returned (.agg #[.bool bb, .slice av tl.length cv, .slice av' ul.length cv'])) := ⟨_, _, _, _, _, _, _, rfl, q1, q2, hS, hok⟩
    have hR := Rk.set3 (v0 := .bool bb) (v1 := .slice av tl.length cv) (v2 := .slice av' ul.length cv') ((Rb.old hal).mono (show k ≤ k + 500 by omega)) hrl
    have hBB := But.set3 (v0 := .bool bb) (v1 := .slice av tl.length cv) (v2 := .slice av' ul.length cv') (Bb.trans (But.of hal)) (Nat.le_refl w.heap.size)
    clear q1 q2 O1 O2 hS Rb Bb hal hk hok hok0
    go_wp2
    exact bodyPost_ret (resGood (K2.setAll (.bool bb) (.slice av tl.length cv) (.slice av' ul.length cv')) rfl) rfl ⟨hF, hR, hBB⟩
  obtain rfl : zs = [] := List.length_eq_zero_iff.1 hz0
  have RX := R1.mono (show k + 1999 ≤ k + 2000 by omega)
  have BX := B1
  clear R1 B1 OB
  go_wp2_with fail
  refine (pick_k rb (k + 1998) _ _ (RX.mono (by omega)) (by decide)).mono ?_
  rintro e w3 ⟨⟨u, ⟨ua, ub⟩, rfl⟩, R3, B3⟩
  replace K2 := K2.but B3 hpb
  have hs3 := B3.size
  replace B3 := BX.trans B3
  have hwu : IntKind.wrap .i64 (1 + u) = 1 + u := by rw [IntKind.wrap_i64]; omega
  have hal3 : Below w3.heap.size w3 (w3.alloc (.cells #[.int .i64 (1 + u)] 3)) := old_alloc (Below.refl _ _) _
  have OB := (one_list w3 (1 + u) 3 ⟨by omega, by omega⟩).mono (show w.heap.size + 1 ≤ w3.heap.size by omega)
  replace K2 := K2.old hal3
  have hs4 := hal3.size
  have RR := (R3.old hal3).mono (show k + 1900 ≤ k + 1998 by omega)
  have BB := B3.trans (But.of hal3)
  clear R3 B3 RX BX hal3
  go_wp2_with fail
  refine (pick_k rb (k + 1899) _ _ (RR.mono (by omega)) (by decide)).mono ?_
  rintro e wa ⟨⟨t, ⟨ta, tb⟩, rfl⟩, Ra, Ba⟩
  replace OB := OB.kept Ba.grown (fun q e1 e2 => by injection e2 with e2; have := OB.ge q e1; omega)
  replace K2 := K2.but Ba hpb
  have hsa := Ba.size
  replace Ba := BB.trans Ba
  clear RR BB
  go_wp2_with fail
  refine (nat_k rb (k + 500) _ (Ra.mono (by omega))).mono ?_
  rintro e wb ⟨⟨v, xs, rfl, G, F_, hl_⟩, Rb, Bb⟩
  obtain ⟨avA, cvA, rfl, OA⟩ := G.oi (digs_fits F_)
  replace OB := OB.kept Bb.grown (fun q e1 e2 => by injection e2 with e2; have := OB.ge q e1; omega)
  replace K2 := K2.but Bb hpb
  have hsb := Bb.size
  replace Bb := Ba.trans Bb
  clear Ra Ba G F_ hl_
  have FO := hd (fun tb => sFracOf tb avA _ _ _ cvA _ xs [1 + u] wb OA.inI OB.inI)
  try simp only [List.length_singleton] at FO
  clear OA OB
  go_wp2_with fail
  refine (FO.out _).mono ?_
  rintro e wc ⟨⟨av, cv, av', cv', rfl, O1, O2, hS⟩, hbc⟩
  replace K2 := K2.old hbc
  replace Rb := Rb.old hbc
  replace Bb := Bb.trans (But.of hbc)
  have hsc := hbc.size
  clear hbc FO
  generalize hbb : fS (ofB xs [1 + u]) (t == 0) (val xs) = bb at *
  generalize htl : fT (ofB xs [1 + u]) (val xs) (val [1 + u]) = tl at *
  generalize hul : fU (ofB xs [1 + u]) (val xs) (val [1 + u]) = ul at *
  have hok0 : Hid (ofB xs [1 + u] = true → fracOk bb tl ul = true) := fun hk => by
    have h9 := low_frac (s := t == 0) (ofB_low hk)
    rw [← hbb, ← htl, ← hul, hk]
    exact h9
  clear hbb htl hul
  cases hk : ofB xs [1 + u]
  · clear hS O1 O2
    go_wp2_with fail
    generalize hwd : wc.alloc _ = wd at *
    have hbd : Below wc.heap.size wc wd := by rw [← hwd]; exact old_alloc (Below.refl _ _) _
    clear hwd
    replace K2 := K2.old hbd
    replace Rb := Rb.old hbd
    replace Bb := Bb.trans (But.of hbd)
    have hsd := hbd.size
    refine (pick_k rb (k + 499) _ _ Rb (by decide)).mono ?_
    rintro e we ⟨⟨u, ⟨ua, ub⟩, rfl⟩, Re, Be⟩
    replace K2 := K2.but Be hpb
    have hse := Be.size
    replace Be := Bb.trans Be
    clear Rb Bb hbd
    go_wp2_with fail
    refine (sFracIntAny _ (by omega) (by omega) _).mono ?_
    rintro e wf ⟨⟨b, a1, c1, ps, a2, c2, qs, rfl, O1, O2, hS, hok⟩, hbf⟩
    have hz := K2.1
    replace K2 := K2.old hbf
    obtain ⟨m1, ⟨m2, m3, m4⟩, m5, m6, m7⟩ := id K2
    have q1 := (oi_set3 (v0 := .bool b) (v1 := .slice a1 ps.length c1) (v2 := .slice a2 qs.length c2) O1 hz).mono (show w.heap.size ≤ _ by omega)
    have q2 := (oi_set3 (v0 := .bool b) (v1 := .slice a1 ps.length c1) (v2 := .slice a2 qs.length c2) O2 hz).mono (show w.heap.size ≤ _ by omega)
    have hF : FG _ w.heap.size (.returned (.agg #[.bool b, .slice a1 ps.length c1, .slice a2 qs.length c2])) := ⟨_, _, _, _, _, _, _, rfl, q1, q2, hS, hok⟩
    have hR := Rk.set3 (v0 := .bool b) (v1 := .slice a1 ps.length c1) (v2 := .slice a2 qs.length c2) ((Re.old hbf).mono (show k ≤ k + 499 by omega)) hrl
    have hBB := But.set3 (v0 := .bool b) (v1 := .slice a1 ps.length c1) (v2 := .slice a2 qs.length c2) (Be.trans (But.of hbf)) (Nat.le_refl w.heap.size)
    clear q1 q2 O1 O2 hS Re Be hbf hk hok hok0
    go_wp2
    exact bodyPost_ret (resGood (K2.setAll (.bool b) (.slice a1 ps.length c1) (.slice a2 qs.length c2)) rfl) rfl ⟨hF, hR, hBB⟩
  have hok := hok0.out hk
  have K4 := Cel3.new wc (.bool bb) (.slice av tl.length cv) (.slice av' ul.length cv') 24
  have hal : Below wc.heap.size wc (wc.alloc (.cells #[.bool bb, .slice av tl.length cv, .slice av' ul.length cv'] 24)) := old_alloc (Below.refl _ _) _
  have hz := K2.1
  have hz2 : w.heap.size ≠ wc.heap.size := by omega
  replace K2 := K2.old hal
  go_upto_region 7 with fail
  generalize wc.alloc (.cells #[.bool bb, .slice av tl.length cv, .slice av' ul.length cv'] 24) = wd at *
  obtain ⟨m1, ⟨m2, m3, m4⟩, m5, m6, m7⟩ := id K2
  obtain ⟨n1, ⟨n2, n3, n4⟩, -⟩ := id K4
  have q1 := (oi_set3 (v0 := .bool bb) (v1 := .slice av tl.length cv) (v2 := .slice av' ul.length cv') (O1.later hal) (show w.heap.size < wb.heap.size by omega)).mono (show w.heap.size ≤ _ by omega)
  have q2 := (oi_set3 (v0 := .bool bb) (v1 := .slice av tl.length cv) (v2 := .slice av' ul.length cv') (O2.later hal) (show w.heap.size < wb.heap.size by omega)).mono (show w.heap.size ≤ _ by omega)
  have hF : FG _ w.heap.size (.returned (.agg #[.bool bb, .slice av tl.length cv, .slice av' ul.length cv'])) := ⟨_, _, _, _, _, _, _, rfl, q1, q2, hS, hok⟩
  have hR := Rk.set3 (v0 := .bool bb) (v1 := .slice av tl.length cv) (v2 := .slice av' ul.length cv') ((Rb.old hal).mono (show k ≤ k + 500 by omega)) hrl
  have hBB := But.set3 (v0 := .bool bb) (v1 := .slice av tl.length cv) (v2 := .slice av' ul.length cv') (Bb.trans (But.of hal)) (Nat.le_refl w.heap.size)
  clear q1 q2 O1 O2 hS Rb Bb hal hk hok hok0
  go_wp2
  exact bodyPost_ret (resGood (K2.setAll (.bool bb) (.slice av tl.length cv) (.slice av' ul.length cv')) rfl) rfl ⟨hF, hR, hBB⟩
end Go.Proofs.YtlfaiekcmflgnaaGreatDoor
