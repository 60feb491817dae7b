/- Literals of fractions, by the specification. Nothing that was there is written. No condition but that the lists are there. -/
import Derived.Test.YtmcfdkhkagkhbaaGreatDoorKV
namespace Go.Proofs.YtmcfdkhkagkhbaaGreatDoor
open Go.RowKit Go.Lib
set_option linter.unusedVariables false
set_option maxRecDepth 100000

theorem mod_same {T B n : Nat} (hg : Nat.gcd T B = 1) : T * n % B = 0 ↔ n % B = 0 := by
  rw [← Nat.dvd_iff_mod_eq_zero, ← Nat.dvd_iff_mod_eq_zero]
  constructor
  · intro h
    exact Nat.Coprime.dvd_of_dvd_mul_left (by rw [Nat.Coprime, Nat.gcd_comm]; exact hg) h
  · intro h; exact Nat.dvd_mul_left_of_dvd h T
theorem dec_big {V : Nat} (h : ¬ (natL V).length ≤ 256) : 60 < (decDigits V).length := by
  by_cases g : (decDigits V).length ≤ 60
  · exfalso
    apply h
    have h1 : nv (bt (decDigits V)) (decDigits V).length < 10 ^ (decDigits V).length := nv_ten (fun i hi => by
      have hm : (decDigits V).getD i 0 ∈ decDigits V := by rw [List.getD_eq_getElem?_getD, List.getElem?_eq_getElem hi]; exact List.getElem_mem hi
      have := dec_dg V _ hm
      rw [byt_bt]
      unfold isD
      rw [Bool.and_eq_true, decide_eq_true_eq, decide_eq_true_eq]
      omega)
    rw [nv_dec] at h1
    have h2 : (10 : Nat) ^ (decDigits V).length ≤ 10 ^ 60 := Nat.pow_le_pow_right (by decide) g
    have h3 : (10 : Nat) ^ 60 < 65536 ^ 60 := Nat.pow_lt_pow_left (by decide) (by decide)
    exact Nat.le_trans (natL_len.2 (Nat.lt_of_lt_of_le h1 (Nat.le_of_lt (Nat.lt_of_le_of_lt h2 h3)))) (by decide)
  · omega
theorem ptL_len (l : List UInt8) (k : Nat) : l.length ≤ (ptL l k).length := by
  unfold ptL
  split
  · exact Nat.le_refl _
  · simp; omega
theorem decS_long {l : List UInt8} (h : 60 < l.length) : decS (bt l) = false := decS_bad (.inl (by rw [bt_size]; exact h))
theorem ptL_at {l : List UInt8} {k c : Nat} (h0 : k ≠ 0) (hc : k + 1 - l.length = c) : ptL l k = (List.replicate c 48 ++ l).take (c + l.length - k) ++ 46 :: (List.replicate c 48 ++ l).drop (c + l.length - k) := by
  unfold ptL
  rw [if_neg h0, hc, show max l.length (k + 1) - k = c + l.length - k by omega]
set_option maxRecDepth 100000 in
set_option maxHeartbeats 16000000 in
theorem sDecMain (a b : Option Addr) (ca cb T B : Nat) (w : World) (hA : InI w a (natL T).length ca (natL T)) (hB : InI w b (natL B).length cb (natL B)) (hf : fracOk false (natL T) (natL B) = true) :
    Calls Tryz.prog 5 #[.agg #[.bool false, .slice a (natL T).length ca, .slice b (natL B).length cb]] w fun e w' => e = .returned (.tuple #[.string (dtT false (natL T) (natL B)), .bool (dtB false (natL T) (natL B))]) ∧ Below w.heap.size w w' := by
  have hin := fracOk_in hf
  have hlA := (natOk_in hin.1).1
  have hlB := (natOk_in hin.2.1).1
  have hg := hin.2.2.2.1
  rw [val_natL, val_natL] at hg
  have hB0 : B ≠ 0 := fun e => hin.2.2.1 (by rw [e, natL_zero]; rfl)
  have hf' := hd hf
  have K0 := CS.made w _ rfl #[.bool false, .slice a (natL T).length ca, .slice b (natL B).length cb] 28
  have e0 : Below w.heap.size w (w.alloc (.cells #[.bool false, .slice a (natL T).length ca, .slice b (natL B).length cb] 28)) := (by repeat (first | exact Below.refl _ _ | refine Below.drew ?_ | refine old_alloc ?_ _ | refine old_trans ?_ (by assumption)))
  have lb0 : 0 < (natL B).length := natL_length_pos (by omega)
  have FO := hd (sFracOk false a b _ _ ca cb (natL T) (natL B) _ (hA.old e0) (hB.old e0))
  rw [hf] at FO
  have MU := hd (fun k (hk : k ≤ 60) a' c' m w' (h : Below w.heap.size w w') (o : OI w' m a' c' (natL (10 ^ k))) => sMul a a' _ _ ca c' (natL T) (natL (10 ^ k)) w' (hA.old h) o.inI (digs_natL _) (digs_natL _) (by omega) (by have := ten_len hk; omega))
  have DU := hd (fun M (hM : (natL M).length ≤ 316) a' c' m w' (h : Below w.heap.size w w') (o : OI w' m a' c' (natL M)) => sDiv a' b _ _ c' cb (natL M) (natL B) w' o.inI (hB.old h) (digs_natL _) (digs_natL _) (topped_natL _) (topped_natL _) (by omega) (by omega) lb0)
  simp only [val_natL] at MU DU
  have hml := hd (fun k (hk : k ≤ 60) => show (natL (T * 10 ^ k)).length ≤ 316 from by have := mul_lenD hlA (ten_len hk); omega)
  have ms := hd (fun n => mod_same (n := n) hg)
  have hvv := hd (show val (natL T) = T ∧ val (natL B) = B from ⟨val_natL T, val_natL B⟩)
  clear hA hB lb0 hin hlA hlB hg hf
  have hB0' := hd hB0
  clear hB0
  have k0 := K0.cell 0 _ rfl
  have k1 := K0.cell 1 _ rfl
  have k2 := K0.cell 2 _ rfl
  go_enter Tryz.func5, Tryz.ntmps5
  generalize hWx : w.alloc (.cells #[.bool false, .slice a (natL T).length ca, .slice b (natL B).length cb] 28) = WX at *
  go_wp2_with fail
  clear hWx
  refine FO.out.mono ?_
  rintro e W0 ⟨rfl, hbx⟩
  have K := K0.later hbx
  replace e0 := old_trans e0 hbx
  clear k0 k1 k2 K0 FO hbx
  have k0 := K.cell 0 _ rfl
  have k1 := K.cell 1 _ rfl
  have k2 := K.cell 2 _ rfl
  go_wp2_with fail
  clear k0 k1 k2
  go_loopw [4] (fun i wr => ∃ k : Nat, k ≤ 60 ∧ i = .int .i64 (k : Int) ∧ kf B = kfrom B (60 - k) k ∧ Below W0.heap.size W0 wr) (fun i _ => 60 - (Lib.intOf i).toNat)
  case atStart => exact ⟨0, by omega, rfl, rfl, Below.refl _ _⟩
  case round =>
    obtain ⟨k, hk, rfl, hkf, hb⟩ := hrel
    have hB1 := old_trans e0 hb
    have K1 := K.later hb
    by_cases hlt : k < 60
    · have hkI : (k : Int) < 60 := by omega
      have k0 := K1.cell 0 _ rfl
      have k1 := K1.cell 1 _ rfl
      have k2 := K1.cell 2 _ rfl
      have TE := hd (fun w' => sTens k (by omega) w')
      have MK := hd (MU.out k (by omega))
      have DK := hd (DU.out _ (hml.out k (by omega)))
      by_cases hz : 10 ^ k % B = 0
      · have hz2 := (ms.out (10 ^ k)).2 hz
        have hks := hkf.trans (kfrom_yes hlt hz)
        have hq1 : T * 10 ^ k / B = T * (10 ^ k / B) := Nat.mul_div_assoc T (Nat.dvd_of_mod_eq_zero hz)
        rw [hz2, hq1] at DK
        obtain ⟨q, hq⟩ : ∃ q, T * (10 ^ k / B) = q := ⟨_, rfl⟩
        have hdc0 : dcL T B = ptL (decDigits q) k := by rw [dcL_some hks, hq]
        have hdc : Hid (dcL (val (natL T)) (val (natL B)) = ptL (decDigits q) k) := by show _ = _; rw [hvv.out.1, hvv.out.2]; exact hdc0
        rw [hq] at DK
        clear hz hz2 hks hq1 hq hdc0 hkf MU DU hml ms
        by_cases hql : (natL q).length ≤ 256
        · have hqI : ¬ ((256 : Int) < ((natL q).length : Int)) := by omega
          have NT := hd (fun a' c' m w' (o : OI w' m a' c' (natL q)) => sNatText a' _ c' (natL q) w' o.inI)
          have hnt : ntB (natL q) = decDigits q := by unfold ntB; rw [natOk_natL (natL_len.1 hql), val_natL]; rfl
          rw [hnt] at NT
          have hll : (decDigits q).length ≤ 4096 := by have := dec_few hql (by decide); omega
          have hl1 : 0 < (decDigits q).length := List.length_pos_iff.2 (dec_ne q)
          obtain ⟨l, hl⟩ : ∃ l, decDigits q = l := ⟨_, rfl⟩
          rw [hl] at NT hll hl1 hdc
          clear hnt hl
          go_wp2_with fail
          go_region_held3 (fun w' => w'.cell? ⟨w.heap.size, 0, none⟩ = some (.bool false) ∧ w'.cell? ⟨w.heap.size, 1, none⟩ = some (.slice a (natL T).length ca) ∧ w'.cell? ⟨w.heap.size, 2, none⟩ = some (.slice b (natL B).length cb)) (go_keep) (first | (go_at_call 13; refine (TE.out _).mono ?_; rintro e w2 ⟨⟨avP, cvP, rfl, O⟩, hb2⟩; have K2 := (by with_reducible first | exact K1.later hb2 | exact K1.drew.later hb2 : CS w2 _ _); have hC2 := (by with_reducible first | exact old_trans hB1 hb2 | exact old_trans hB1.drew hb2 : Below w.heap.size w w2); have hD2 := (by with_reducible first | exact old_trans hb hb2 | exact old_trans hb.drew hb2 : Below W0.heap.size W0 w2); have m0 := K2.cell 0 _ rfl; have m1 := K2.cell 1 _ rfl; have m2 := K2.cell 2 _ rfl; have m3 := K2.lt) | (go_at_call 12; (first | refine (MK.out _ _ _ _ hC2 O).mono ?_ | refine (MK.out _ _ _ _ hC2.drew O.drew).mono ?_); rintro e w3 ⟨⟨avM, cvM, rfl, OM⟩, hb3⟩; have K3 := (by with_reducible first | exact K2.later hb3 | exact K2.drew.later hb3 : CS w3 _ _); have hC3 := (by with_reducible first | exact old_trans hC2 hb3 | exact old_trans hC2.drew hb3 : Below w.heap.size w w3); have hD3 := (by with_reducible first | exact old_trans hD2 hb3 | exact old_trans hD2.drew hb3 : Below W0.heap.size W0 w3); have n0 := K3.cell 0 _ rfl; have n1 := K3.cell 1 _ rfl; have n2 := K3.cell 2 _ rfl; have n3 := K3.lt) | (go_at_call 11; (first | refine (DK.out _ _ _ _ hC3 OM).mono ?_ | refine (DK.out _ _ _ _ hC3.drew OM.drew).mono ?_); rintro e w4 ⟨⟨avQ, cvQ, avR, cvR, rfl, OQ, OR, -⟩, hb4⟩; have K4 := (by with_reducible first | exact K3.later hb4 | exact K3.drew.later hb4 : CS w4 _ _); have hC4 := (by with_reducible first | exact old_trans hC3 hb4 | exact old_trans hC3.drew hb4 : Below w.heap.size w w4); have hD4 := (by with_reducible first | exact old_trans hD3 hb4 | exact old_trans hD3.drew hb4 : Below W0.heap.size W0 w4); have o0 := K4.cell 0 _ rfl; have o1 := K4.cell 1 _ rfl; have o2 := K4.cell 2 _ rfl; have o3 := K4.lt))
          all_goals
            rw [natL_zero, List.length_nil]
            go_wp2_with fail
            refine (NT.out _ _ _ _ OQ).mono ?_
            rintro e w5 ⟨rfl, hb5⟩
            have hC5 := old_trans hC4 hb5
            rw [show (⟨l.toArray⟩ : ByteArray) = bt l from rfl]
            clear hb5 hb4 hb3 hb2 OQ OR OM O o0 o1 o2 o3 n0 n1 n2 n3 m0 m1 m2 m3 k0 k1 k2 K2 K3 K4 hC2 hC3 hC4 hD2 hD3 hD4 K1 hB1 hb TE MK DK NT hql hqI
            obtain ⟨W5, rfl⟩ : ∃ W5, W5 = w5 := ⟨_, rfl⟩
            go_wp2_with fail
            go_loopg [7] (k + 1 - l.length) (fun g s wr => ∃ j : Nat, s = .string (bt (List.replicate j 48 ++ l)) ∧ j + g = k + 1 - l.length ∧ wr = W5)
            case atStart => exact ⟨0, rfl, by omega, rfl⟩
            case round =>
              obtain ⟨j, rfl, hj, rfl⟩ := hrel
              have hsz : (bt (List.replicate j 48 ++ l)).size = j + l.length := by rw [bt_size]; simp
              have hkJ : (k : Int) ≤ 60 := by omega
              by_cases hg0 : gk = 0
              · subst hg0
                have hlt9 : ¬ ((j : Int) + (l.length : Int) ≤ (k : Int)) := by omega
                have hlt8 : ¬ (j + l.length ≤ k) := by omega
                have hjl : (j : Int) ≤ 61 := by omega
                have hllI : (l.length : Int) ≤ 4096 := by omega
                have hC7 := hC5
                by_cases hk0 : k = 0
                · obtain rfl : j = 0 := by omega
                  subst hk0
                  have hpl : ptL l 0 = l := rfl
                  have OK := hd (fun w' => sDecOkB (bt (ptL l 0)) (by rw [hpl, bt_size]; unfold maxLen; omega) w')
                  rw [show List.replicate 0 48 ++ l = ptL l 0 from rfl]
                  have hsz' : (bt (ptL l 0)).size = l.length := bt_size l
                  have n1 : ¬ ((l.length : Int) ≤ 0) := by omega
                  have n2 : ¬ (l.length ≤ 0) := by omega
                  have n3 : ¬ (l = []) := fun e => by rw [e] at hl1; simp at hl1
                  clear hpl hsz hlt9 hlt8 hj
                  cases hd9 : decS (bt (ptL l 0))
                  · have q := hd (dtB_3 (bl := false) (xs := natL T) (ys := natL B) (by rw [hdc.out]; exact hd9))
                    have q2 := hd (dt_no q.out)
                    rw [hd9] at OK
                    clear hd9
                    go_wp2_with fail
                    refine (OK.out _).mono ?_
                    rintro e w8 ⟨rfl, hb8⟩
                    go_wp2
                    go_ret2
                    exact ⟨retD q2.out q.out, old_trans hC7 hb8⟩
                  · have q := hd (dtB_4 hf'.out (by rw [hdc.out]; exact hd9))
                    have q2 := hd ((dt_yes q.out).trans (by rw [hdc.out]))
                    rw [hd9] at OK
                    clear hd9
                    go_wp2_with fail
                    refine (OK.out _).mono ?_
                    rintro e w8 ⟨rfl, hb8⟩
                    go_wp2
                    go_ret2
                    exact ⟨retD q2.out q.out, old_trans hC7 hb8⟩
                · have hk1 : (0 : Int) < (k : Int) := by omega
                  obtain ⟨p, hp⟩ : ∃ p, j + l.length - k = p := ⟨_, rfl⟩
                  have hpa := ptL_at hk0 (show k + 1 - l.length = j by omega)
                  rw [hp] at hpa
                  obtain ⟨a9, ha⟩ : ∃ a9, List.replicate j 48 ++ l = a9 := ⟨_, rfl⟩
                  have hal : a9.length = j + l.length := by rw [← ha]; simp
                  rw [ha] at hpa hsz ⊢
                  have hsa : (bt a9).size = a9.length := bt_size a9
                  have hpI : (a9.length : Int) - (k : Int) = (p : Int) := by omega
                  have q1 := qTo a9 p (by omega)
                  have q2 := qFrom a9 p (by omega)
                  have f1 : bt (a9.take p) ++ ⟨#[46]⟩ ++ bt (a9.drop p) = bt (ptL l k) := by
                    rw [hpa, show (⟨#[46]⟩ : ByteArray) = bt [46] from rfl, qt_app, qt_app]; simp
                  have z1 : (bt (a9.take p)).size ≤ 5000 := by rw [bt_size, List.length_take]; omega
                  have z2 : (bt (a9.drop p)).size ≤ 5000 := by rw [bt_size, List.length_drop]; omega
                  have hplen : (ptL l k).length ≤ 6000 := by rw [hpa, List.length_append, List.length_cons, List.length_take, List.length_drop]; omega
                  have OK := hd (fun w' => sDecOkB (bt (ptL l k)) (by rw [bt_size]; unfold maxLen; omega) w')
                  have a1 : ¬ ((a9.length : Int) ≤ (k : Int)) := by omega
                  have a2 : ¬ (a9.length ≤ k) := by omega
                  have a3 : (a9.length : Int) ≤ 5000 := by omega
                  clear hpa ha hal hp hsz hlt9 hlt8 hplen hj
                  go_wp2
                  go_quiet (fail)
                  replace hC7 : Below w.heap.size w (wr.drewN nq) := hC5.trans ⟨rfl, rfl, rfl, Nat.le_refl _, fun _ _ => rfl⟩
                  clear q1 q2 z1 z2 a1 a2 a3 hpI hsa f1
                  cases hd9 : decS (bt (ptL l k))
                  · have q := hd (dtB_3 (bl := false) (xs := natL T) (ys := natL B) (by rw [hdc.out]; exact hd9))
                    have q2 := hd (dt_no q.out)
                    rw [hd9] at OK
                    clear hd9
                    go_wp2_with fail
                    refine (OK.out _).mono ?_
                    rintro e w8 ⟨rfl, hb8⟩
                    go_wp2
                    go_ret2
                    exact ⟨retD q2.out q.out, old_trans hC7 hb8⟩
                  · have q := hd (dtB_4 hf'.out (by rw [hdc.out]; exact hd9))
                    have q2 := hd ((dt_yes q.out).trans (by rw [hdc.out]))
                    rw [hd9] at OK
                    clear hd9
                    go_wp2_with fail
                    refine (OK.out _).mono ?_
                    rintro e w8 ⟨rfl, hb8⟩
                    go_wp2
                    go_ret2
                    exact ⟨retD q2.out q.out, old_trans hC7 hb8⟩
              · have hle9 : (j : Int) + (l.length : Int) ≤ (k : Int) := by omega
                have hle8 : j + l.length ≤ k := by omega
                have happ : Hid ((⟨#[48]⟩ : ByteArray) ++ bt (List.replicate j 48 ++ l) = bt (List.replicate (j + 1) 48 ++ l)) := by
                  show _ = _
                  rw [show (⟨#[48]⟩ : ByteArray) = bt [48] from rfl, qt_app]
                  refine congrArg bt ?_
                  rw [List.replicate_succ]; rfl
                have hjn : Hid (j + 1 + (gk - 1) = k + 1 - l.length) := by show _ = _; omega
                have hgg : Hid (gk - 1 < gk) := by show _ < _; omega
                clear hj hg0
                go_wp2
                rw [happ.out]
                go_roundg (gk - 1)
                case measure => exact hgg.out
                case rel => exact ⟨j + 1, rfl, hjn.out, rfl⟩
        · have hqI : (256 : Int) < ((natL q).length : Int) := by omega
          have qd := hd (dtB_3 (bl := false) (xs := natL T) (ys := natL B) (by rw [hdc.out]; exact decS_long (Nat.lt_of_lt_of_le (dec_big hql) (ptL_len _ _))))
          have q2 := hd (dt_no qd.out)
          go_wp2_with fail
          go_region_held3 (fun w' => w'.cell? ⟨w.heap.size, 0, none⟩ = some (.bool false) ∧ w'.cell? ⟨w.heap.size, 1, none⟩ = some (.slice a (natL T).length ca) ∧ w'.cell? ⟨w.heap.size, 2, none⟩ = some (.slice b (natL B).length cb)) (go_keep) (first | (go_at_call 13; refine (TE.out _).mono ?_; rintro e w2 ⟨⟨avP, cvP, rfl, O⟩, hb2⟩; have K2 := (by with_reducible first | exact K1.later hb2 | exact K1.drew.later hb2 : CS w2 _ _); have hC2 := (by with_reducible first | exact old_trans hB1 hb2 | exact old_trans hB1.drew hb2 : Below w.heap.size w w2); have hD2 := (by with_reducible first | exact old_trans hb hb2 | exact old_trans hb.drew hb2 : Below W0.heap.size W0 w2); have m0 := K2.cell 0 _ rfl; have m1 := K2.cell 1 _ rfl; have m2 := K2.cell 2 _ rfl; have m3 := K2.lt) | (go_at_call 12; (first | refine (MK.out _ _ _ _ hC2 O).mono ?_ | refine (MK.out _ _ _ _ hC2.drew O.drew).mono ?_); rintro e w3 ⟨⟨avM, cvM, rfl, OM⟩, hb3⟩; have K3 := (by with_reducible first | exact K2.later hb3 | exact K2.drew.later hb3 : CS w3 _ _); have hC3 := (by with_reducible first | exact old_trans hC2 hb3 | exact old_trans hC2.drew hb3 : Below w.heap.size w w3); have hD3 := (by with_reducible first | exact old_trans hD2 hb3 | exact old_trans hD2.drew hb3 : Below W0.heap.size W0 w3); have n0 := K3.cell 0 _ rfl; have n1 := K3.cell 1 _ rfl; have n2 := K3.cell 2 _ rfl; have n3 := K3.lt) | (go_at_call 11; (first | refine (DK.out _ _ _ _ hC3 OM).mono ?_ | refine (DK.out _ _ _ _ hC3.drew OM.drew).mono ?_); rintro e w4 ⟨⟨avQ, cvQ, avR, cvR, rfl, OQ, OR, -⟩, hb4⟩; have K4 := (by with_reducible first | exact K3.later hb4 | exact K3.drew.later hb4 : CS w4 _ _); have hC4 := (by with_reducible first | exact old_trans hC3 hb4 | exact old_trans hC3.drew hb4 : Below w.heap.size w w4); have hD4 := (by with_reducible first | exact old_trans hD3 hb4 | exact old_trans hD3.drew hb4 : Below W0.heap.size W0 w4); have o0 := K4.cell 0 _ rfl; have o1 := K4.cell 1 _ rfl; have o2 := K4.cell 2 _ rfl; have o3 := K4.lt))
          all_goals
            rw [natL_zero, List.length_nil]
            go_wp2
            go_ret2
            exact ⟨retD q2.out qd.out, hC4⟩
      · have hkn := hd (hkf.trans (kfrom_no hlt hz))
        have hz3 : ¬ T * 10 ^ k % B = 0 := fun e => hz ((ms.out (10 ^ k)).1 e)
        have rl : 0 < (natL (T * 10 ^ k % B)).length := natL_length_pos (by omega)
        obtain ⟨q, hq⟩ : ∃ q, T * 10 ^ k / B = q := ⟨_, rfl⟩
        obtain ⟨rr, hr⟩ : ∃ rr, T * 10 ^ k % B = rr := ⟨_, rfl⟩
        rw [hq, hr] at DK
        rw [hr] at rl
        have rlI : (0 : Int) < ((natL rr).length : Int) := by omega
        clear hz hz3 hkf MU DU hml ms hq hr
        go_wp2_with fail
        go_region_held3 (fun w' => w'.cell? ⟨w.heap.size, 0, none⟩ = some (.bool false) ∧ w'.cell? ⟨w.heap.size, 1, none⟩ = some (.slice a (natL T).length ca) ∧ w'.cell? ⟨w.heap.size, 2, none⟩ = some (.slice b (natL B).length cb)) (go_keep) (first | (go_at_call 13; refine (TE.out _).mono ?_; rintro e w2 ⟨⟨avP, cvP, rfl, O⟩, hb2⟩; have K2 := (by with_reducible first | exact K1.later hb2 | exact K1.drew.later hb2 : CS w2 _ _); have hC2 := (by with_reducible first | exact old_trans hB1 hb2 | exact old_trans hB1.drew hb2 : Below w.heap.size w w2); have hD2 := (by with_reducible first | exact old_trans hb hb2 | exact old_trans hb.drew hb2 : Below W0.heap.size W0 w2); have m0 := K2.cell 0 _ rfl; have m1 := K2.cell 1 _ rfl; have m2 := K2.cell 2 _ rfl; have m3 := K2.lt) | (go_at_call 12; (first | refine (MK.out _ _ _ _ hC2 O).mono ?_ | refine (MK.out _ _ _ _ hC2.drew O.drew).mono ?_); rintro e w3 ⟨⟨avM, cvM, rfl, OM⟩, hb3⟩; have K3 := (by with_reducible first | exact K2.later hb3 | exact K2.drew.later hb3 : CS w3 _ _); have hC3 := (by with_reducible first | exact old_trans hC2 hb3 | exact old_trans hC2.drew hb3 : Below w.heap.size w w3); have hD3 := (by with_reducible first | exact old_trans hD2 hb3 | exact old_trans hD2.drew hb3 : Below W0.heap.size W0 w3); have n0 := K3.cell 0 _ rfl; have n1 := K3.cell 1 _ rfl; have n2 := K3.cell 2 _ rfl; have n3 := K3.lt) | (go_at_call 11; (first | refine (DK.out _ _ _ _ hC3 OM).mono ?_ | refine (DK.out _ _ _ _ hC3.drew OM.drew).mono ?_); rintro e w4 ⟨⟨avQ, cvQ, avR, cvR, rfl, OQ, OR, -⟩, hb4⟩; have K4 := (by with_reducible first | exact K3.later hb4 | exact K3.drew.later hb4 : CS w4 _ _); have hC4 := (by with_reducible first | exact old_trans hC3 hb4 | exact old_trans hC3.drew hb4 : Below w.heap.size w w4); have hD4 := (by with_reducible first | exact old_trans hD3 hb4 | exact old_trans hD3.drew hb4 : Below W0.heap.size W0 w4); have o0 := K4.cell 0 _ rfl; have o1 := K4.cell 1 _ rfl; have o2 := K4.cell 2 _ rfl; have o3 := K4.lt))
        all_goals
          go_wp2
          go_roundw
          case rel => exact ⟨k + 1, by omega, by go_num, hkn.out, hD4⟩
          case measure => simp [Lib.intOf]; omega
    · obtain rfl : k = 60 := by omega
      have hdc : Hid (dcL (val (natL T)) (val (natL B)) = []) := by show _ = _; rw [hvv.out.2]; exact dcL_none (hkf.trans rfl)
      have qd := hd (dtB_3 (bl := false) (xs := natL T) (ys := natL B) (by rw [hdc.out]; exact decS_bad (.inr (.inl rfl))))
      have q2 := hd (dt_no qd.out)
      clear hkf MU DU hml ms K K1
      go_wp2
      go_ret2
      exact ⟨retD q2.out qd.out, hB1⟩
end Go.Proofs.YtmcfdkhkagkhbaaGreatDoor
