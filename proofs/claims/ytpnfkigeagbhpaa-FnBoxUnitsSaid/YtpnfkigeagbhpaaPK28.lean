/- The draw of a box: some pairs, in memory of their own; the reader some places further, all other old memory as it was. No condition. -/
import Derived.Test.YtpnfkigeagbhpaaPK27
import Derived.Deep.AppendLies
import Derived.Deep.RegionLaw
import Derived.Test.YtpnfkigeagbhpaaPK03
import Derived.Test.YtpnfkigeagbhpaaPK16
namespace Go.Proofs.Ytpnfkigeagbhpaa
open Go.RowKit
set_option linter.unusedVariables false
set_option maxRecDepth 100000

set_option maxRecDepth 100000 in
set_option maxHeartbeats 8000000 in
theorem box_k (rb k : Nat) (wd : Int) (w : World) (h : Rk w rb (k + 1500)) :
    Calls Try.prog 39 #[.pointer (some ⟨rb, 0, none⟩), .int .i64 wd] w fun e w' => (∃ av cv ps, e = .returned (.agg #[.slice av (ps : List (Int × Int)).length cv]) ∧ ps.length ≤ 7 ∧ Tight ps ∧ OB w' w.heap.size av cv ps) ∧ Rk w' rb k ∧ But rb w w' := by
  have hlt := h.lt
  have hneK : w.heap.size ≠ rb := by omega
  have hneM : w.heap.size + 1 ≠ rb := by omega
  have K : Cel1 ((w.alloc (.cells #[.slice none 0 0] 25)).alloc (.cells #[.slice none 0 0] 25)) w.heap.size (.slice none 0 0) := (Cel1.made w _ rfl _ _).alloc _
  have M : Cel1 ((w.alloc (.cells #[.slice none 0 0] 25)).alloc (.cells #[.slice none 0 0] 25)) (w.heap.size + 1) (.slice none 0 0) := Cel1.made _ _ (by simp) _ _
  have hB : But rb w ((w.alloc (.cells #[.slice none 0 0] 25)).alloc (.cells #[.slice none 0 0] 25)) := ((But.refl _ _).alloc _).alloc _
  have hR := (h.alloc (.cells #[.slice none 0 0] 25)).alloc (.cells #[.slice none 0 0] 25)
  obtain ⟨base, hbase⟩ : ∃ base, base = w.heap.size + 2 := ⟨_, rfl⟩
  have hMb : w.heap.size + 1 < base := by omega
  have hKb : w.heap.size < base := by omega
  have hrbb : rb < base := by omega
  have hsz : base ≤ ((w.alloc (.cells #[.slice none 0 0] 25)).alloc (.cells #[.slice none 0 0] 25)).heap.size := by simp; omega
  obtain ⟨i0, hi, hz0, hz1, hz2⟩ := info_parts infoPair
  clear h
  go_enter Try.func39, Try.ntmps39
  go_wp2_with fail
  generalize (w.alloc (.cells #[.slice none 0 0] 25)).alloc (.cells #[.slice none 0 0] 25) = wz at *
  refine (pick_k rb (k + 1499) _ _ hR (by decide)).mono ?_
  rintro e wa ⟨⟨u, ⟨ua, ub⟩, rfl⟩, hRa, hBa⟩
  replace K := K.but hBa hneK
  replace M := M.but hBa hneM
  replace hB := hB.trans hBa
  replace hsz := Nat.le_trans hsz hBa.size
  clear hR hBa
  go_wp2_with fail
  refine (pick_k rb (k + 1498) _ _ hRa (by decide)).mono ?_
  rintro e wb ⟨⟨v, ⟨va, vb⟩, rfl⟩, hRb, hBb⟩
  replace K := K.but hBb hneK
  replace M := M.but hBb hneM
  replace hB := hB.trans hBb
  replace hsz := Nat.le_trans hsz hBb.size
  clear hRa hBb
  have key : ∀ (n : Int) (wc : World), 0 ≤ n → n ≤ 7 → Rk wc rb (k + 1490) → But rb w wc → Cel1 wc w.heap.size (.slice none 0 0) → Cel1 wc (w.heap.size + 1) (.slice none 0 0) → base ≤ wc.heap.size → True := fun _ _ _ _ _ _ _ _ _ => trivial
  clear key
  by_cases hv : v = 0
  case' pos =>
    subst hv
    go_wp2_with fail
    refine (pick_k rb (k + 1497) _ _ hRb (by decide)).mono ?_
    rintro e wc ⟨⟨n, ⟨na, nb⟩, rfl⟩, hR, hBc⟩
    replace K := K.but hBc hneK
    replace M := M.but hBc hneM
    replace hB := hB.trans hBc
    replace hsz := Nat.le_trans hsz hBc.size
    replace hR := hR.mono (show k + 1490 ≤ k + 1497 by omega)
    clear hRb hBc
    go_wp2_with fail
  case' neg =>
    have hv2 : (v == 0) = false := by simp; exact hv
    have na : 0 ≤ 1 + u := by omega
    have nb : 1 + u < 8 := by omega
    have hR := hRb.mono (show k + 1490 ≤ k + 1498 by omega)
    clear hRb
    generalize wb = wc at *
    clear hv
    go_wp2_with fail
    generalize 1 + u = n at *
  all_goals
    go_loopw [7] (fun i wr => ∃ (j : Nat) (av : Option Addr) (nv cv : Nat) (ps : List (Int × Int)), (j : Int) ≤ n ∧ i = .int .i64 j ∧ Hid (ps.length = j) ∧ Tight ps ∧ Grows wr base (.slice av nv cv) ps ∧ Cel1 wr (w.heap.size + 1) (.slice av nv cv) ∧ Cel1 wr w.heap.size (.slice none 0 0) ∧ Rk wr rb (k + (7 - j) * 200 + 10) ∧ But rb w wr ∧ base ≤ wr.heap.size) (fun i _ => n.toNat - (intOf i).toNat)
    case atStart => exact ⟨0, none, 0, 0, [], na, rfl, rfl, Tight.nil, Grows.nil _ _, M, K, hR.mono (by omega), hB, hsz⟩
    case round =>
      clear K M hR hB hsz
      obtain ⟨j, av, nv, cv, ps, hj, rfl, hl, hT, G, M, K, hR, hB, hsz⟩ := hrel
      by_cases hjn : (j : Int) < n
      · obtain ⟨q, hq⟩ : ∃ q, q = k + (7 - (j + 1)) * 200 + 10 := ⟨_, rfl⟩
        replace hR := hR.mono (show q + 200 ≤ k + (7 - j) * 200 + 10 by omega)
        go_wp2_with fail
        refine (pick_k rb (q + 199) _ _ hR (by decide)).mono ?_
        rintro e w1 ⟨⟨v1, ⟨v1a, v1b⟩, rfl⟩, hR1, hB1⟩
        replace K := K.but hB1 hneK
        replace M := M.but hB1 hneM
        replace G := G.but hB1 hrbb
        replace hB := hB.trans hB1
        replace hsz := Nat.le_trans hsz hB1.size
        clear hR hB1
        have m10 := M.1
        have hps := hl.out
        have hj7 : j < 7 := by omega
        by_cases hv1 : v1 = 0
        case' pos =>
          subst hv1
          go_wp2_with fail
          go_region_law (first | (refine step_append_lies _ (by rfl) _ _ 23 (by rfl) base 42 i0 _ 2 16 Try.underlying23 hi hz0 hz1 hz2 rfl (by decide) _ ps.length (flat ps) (by rfl) (G2.alloc (.cells #[.int .i64 x, .int .i64 y] 42)) ⟨w2.heap.size, 0, none⟩ 1 1 [.int .i64 x, .int .i64 y] (by rfl) rfl (cells_two _ _ rfl _ _ _) (by simp [Value.oneCell']) (by decide) (by unfold maxLen; omega) (by omega) (by simp at ms2 ⊢; omega) _ rfl ?_; intro g' cap' w5 hown hgrow hat5 hlt5; have O5 := (M2.alloc (.cells #[.int .i64 x, .int .i64 y] 42)).kept hgrow (G2.far hMb); have o5 := O5.1; have f5 := O5.2.1; have l5 := O5.2.2) | (go_simp; go_at_call 71; refine (pairT_k rb (q + 170) wd _ (hR1.drewd)).mono ?_; rintro e w2 ⟨⟨x, y, hxy, rfl⟩, hR2, hB2⟩; have M2 := M.drew.but hB2 hneM; have K2 := K.drew.but hB2 hneK; have G2 := G.drewd.but hB2 hrbb; have m20 := M2.1; have ms2 := hB2.size; have ml2 := Nat.ne_of_lt M2.2.2; have mg2 := Nat.ne_of_gt M2.2.2; have m21 := (M2.alloc (.cells #[.int .i64 x, .int .i64 y] 42)).1))
        case' neg =>
          have hv3 : (v1 == 0) = false := by simp; exact hv1
          go_wp2_with fail
          go_region_law (first | (refine step_append_lies _ (by rfl) _ _ 23 (by rfl) base 42 i0 _ 2 16 Try.underlying23 hi hz0 hz1 hz2 rfl (by decide) _ ps.length (flat ps) (by rfl) (G2.alloc (.cells #[.int .i64 x, .int .i64 y] 42)) ⟨w2.heap.size, 0, none⟩ 1 1 [.int .i64 x, .int .i64 y] (by rfl) rfl (cells_two _ _ rfl _ _ _) (by simp [Value.oneCell']) (by decide) (by unfold maxLen; omega) (by omega) (by simp at ms2 ⊢; omega) _ rfl ?_; intro g' cap' w5 hown hgrow hat5 hlt5; have O5 := (M2.alloc (.cells #[.int .i64 x, .int .i64 y] 42)).kept hgrow (G2.far hMb); have o5 := O5.1; have f5 := O5.2.1; have l5 := O5.2.2) | (go_simp; go_at_call 72; refine (goodT_k rb (q + 25) wd _ (hR1.drewd)).mono ?_; rintro e w2 ⟨⟨x, y, hxy, rfl⟩, hR2, hB2⟩; have M2 := M.drew.but hB2 hneM; have K2 := K.drew.but hB2 hneK; have G2 := G.drewd.but hB2 hrbb; have m20 := M2.1; have ms2 := hB2.size; have ml2 := Nat.ne_of_lt M2.2.2; have mg2 := Nat.ne_of_gt M2.2.2; have m21 := (M2.alloc (.cells #[.int .i64 x, .int .i64 y] 42)).1))
        all_goals
          have K5 := (K2.alloc (.cells #[.int .i64 x, .int .i64 y] 42)).kept hgrow (G2.far hKb)
          have G5 : Grows w5 base (.slice (some ⟨g', 0, none⟩) (j + 1) cap') (ps ++ [(x, y)]) := Grows.snoc hps (by rw [hps] at hown; exact hown)
          have B5 := ((hB.drew.trans hB2).alloc (.cells #[.int .i64 x, .int .i64 y] 42)).grown hgrow (fun c e => by have := (World.ownsRow.lt G2 c e).1; omega)
          have R5 := (hR2.alloc (.cells #[.int .i64 x, .int .i64 y] 42)).kept hgrow (fun c e => by have := (World.ownsRow.lt G2 c e).1; omega)
          have S5 := hgrow.size
          go_wp2
          go_roundw
          case rel => exact ⟨j + 1, _, _, _, ps ++ [(x, y)], by omega, by go_num, by show _ = _; rw [List.length_append, hps]; rfl, hT.snoc hxy.1 hxy.2, G5.set (by omega) _, O5.set _, K5.other _ (by simp <;> omega) _, (R5.mono (by omega)).far _ _ (by omega) _, B5.far (p := ⟨w.heap.size + 1, 0, none⟩) (by simp <;> omega) _, by simp [World.setCell]; simp at S5; simp at ms2; omega⟩
          case measure => simp [intOf]; omega
      · obtain rfl : n = j := by omega
        obtain ⟨av', cv', e1, OBx⟩ := G.ob hT.fits
        injection e1 with e1 e2 e3
        subst e1 e2 e3
        have m10 := M.1
        obtain ⟨k0, k1, k2⟩ := id K
        go_wp2
        refine bodyPost_ret (v := .agg #[.slice av ps.length cv]) ?_ rfl ⟨⟨av, cv, ps, rfl, by have := hl.out; omega, hT, (OBx.set1 (by omega) _).mono' (by omega)⟩, (hR.mono (by omega)).far _ _ (by omega) _, hB.far (p := ⟨w.heap.size, 0, none⟩) (by simp <;> omega) _⟩
        simp [results, Try.results39, go_sem, k0]
end Go.Proofs.Ytpnfkigeagbhpaa

/- The draw of a box of few steps, and of a width and a box. Nothing that was there is written but the reader. No condition. -/
namespace Go.Proofs.Ytpnfkigeagbhpaa
open Go.RowKit
set_option linter.unusedVariables false
set_option maxRecDepth 100000

theorem topI_bd5 (wd : Int) : 0 ≤ topI wd ∧ topI wd ≤ 9218868437227405312 := by unfold topI; split <;> (try split) <;> omega
set_option maxRecDepth 100000 in
set_option maxHeartbeats 8000000 in
theorem few_k (rb k : Nat) (wd : Int) (w : World) (h : Rk w rb (k + 100)) :
    Calls Try.prog 79 #[.pointer (some ⟨rb, 0, none⟩), .int .i64 wd] w fun e w' => (∃ av cv ps, e = .returned (.agg #[.slice av (ps : List (Int × Int)).length cv]) ∧ ps.length ≤ 7 ∧ Tight ps ∧ OB w' w.heap.size av cv ps) ∧ Rk w' rb k ∧ But rb w w' := by
  have hlt := h.lt
  have hneK : w.heap.size ≠ rb := by omega
  have hneM : w.heap.size + 1 ≠ rb := by omega
  have K : Cel1 ((w.alloc (.cells #[.slice none 0 0] 25)).alloc (.cells #[.slice none 0 0] 25)) w.heap.size (.slice none 0 0) := (Cel1.made w _ rfl _ _).alloc _
  have M : Cel1 ((w.alloc (.cells #[.slice none 0 0] 25)).alloc (.cells #[.slice none 0 0] 25)) (w.heap.size + 1) (.slice none 0 0) := Cel1.made _ _ (by simp) _ _
  have hB : But rb w ((w.alloc (.cells #[.slice none 0 0] 25)).alloc (.cells #[.slice none 0 0] 25)) := ((But.refl _ _).alloc _).alloc _
  have hR := (h.alloc (.cells #[.slice none 0 0] 25)).alloc (.cells #[.slice none 0 0] 25)
  obtain ⟨base, hbase⟩ : ∃ base, base = w.heap.size + 2 := ⟨_, rfl⟩
  have hMb : w.heap.size + 1 < base := by omega
  have hKb : w.heap.size < base := by omega
  have hrbb : rb < base := by omega
  have hsz : base ≤ (((w.alloc (.cells #[.slice none 0 0] 25)).alloc (.cells #[.slice none 0 0] 25))).heap.size := by simp; omega
  have TT := hd (sTopR wd)
  have hT0 := topI_bd5 wd
  have E := hd (fun (a b : Int) => sPairOk wd a b)
  generalize topI wd = T at *
  obtain ⟨i0, hi, hz0, hz1, hz2⟩ := info_parts infoPair
  clear h hbase
  go_enter Try.func79, Try.ntmps79
  go_wp2_with fail
  generalize ((w.alloc (.cells #[.slice none 0 0] 25)).alloc (.cells #[.slice none 0 0] 25)) = wz at *
  refine (pick_k rb (k + 99) _ _ hR (by decide)).mono ?_
  rintro e wa ⟨⟨u, ⟨ua, ub⟩, rfl⟩, hRa, hBa⟩
  replace K := K.but hBa hneK
  replace M := M.but hBa hneM
  replace hB := hB.trans hBa
  replace hsz := Nat.le_trans hsz hBa.size
  clear hR hBa
  go_wp2_with fail
  have na : 0 ≤ 1 + u := by omega
  have nb : 1 + u ≤ 3 := by omega
  generalize 1 + u = n at *
  go_loopw [7] (fun i wr => ∃ (j : Nat) (av : Option Addr) (nv cv : Nat) (ps : List (Int × Int)), (j : Int) ≤ n ∧ i = .int .i64 j ∧ Hid (ps.length = j) ∧ Tight ps ∧ Grows wr base (.slice av nv cv) ps ∧ Cel1 wr (w.heap.size + 1) (.slice av nv cv) ∧ Cel1 wr w.heap.size (.slice none 0 0) ∧ Rk wr rb (k + (3 - j) * 20) ∧ But rb w wr ∧ base ≤ wr.heap.size) (fun i _ => n.toNat - (intOf i).toNat)
  case atStart => exact ⟨0, none, 0, 0, [], na, rfl, rfl, Tight.nil, Grows.nil _ _, M, K, hRa.mono (by omega), hB, hsz⟩
  case round =>
    clear K M hRa hB hsz
    obtain ⟨j, av, nv, cv, ps, hj, rfl, hl, hT, G, M, K, hR, hB, hsz⟩ := hrel
    by_cases hjn : (j : Int) < n
    · obtain ⟨q, hq⟩ : ∃ q, q = k + (3 - (j + 1)) * 20 := ⟨_, rfl⟩
      replace hR := hR.mono (show q + 1 + 13 ≤ k + (3 - j) * 20 by omega)
      have hps := hl.out
      have hj7 : j < 3 := by omega
      go_wp2_with fail
      refine (ordT_any wd rb (q + 1) _ hR).mono ?_
      rintro e w1 ⟨⟨v, hv, rfl⟩, hR1, hB1⟩
      clear hR
      have h4 : (T - 20 ≤ v ∧ T - 20 < -T) ∨ (T - 20 ≤ v ∧ ¬ T - 20 < -T) ∨ (¬ T - 20 ≤ v ∧ v < -T) ∨ (¬ T - 20 ≤ v ∧ ¬ v < -T) := by omega
      have hT1 := hT0.1
      have hT2 := hT0.2
      rcases h4 with ⟨c1, c2⟩ | ⟨c1, c2⟩ | ⟨c1, c2⟩ | ⟨c1, c2⟩
      case' inl =>
        go_wp2_with (go_at_call 64; refine (TT.out _).mono ?_; rintro e wt ⟨rfl, rfl⟩)
        have hlo : -9218868437227405320 ≤ -T ∧ -T ≤ 9218868437227405320 := by omega
        generalize -T = lo at *
      case' inr.inl =>
        go_wp2_with (go_at_call 64; refine (TT.out _).mono ?_; rintro e wt ⟨rfl, rfl⟩)
        have hlo : -9218868437227405320 ≤ T - 20 ∧ T - 20 ≤ 9218868437227405320 := by omega
        generalize T - 20 = lo at *
      case' inr.inr.inl =>
        go_wp2_with (go_at_call 64; refine (TT.out _).mono ?_; rintro e wt ⟨rfl, rfl⟩)
        have hlo : -9218868437227405320 ≤ -T ∧ -T ≤ 9218868437227405320 := by omega
        generalize -T = lo at *
      case' inr.inr.inr =>
        go_wp2_with (go_at_call 64; refine (TT.out _).mono ?_; rintro e wt ⟨rfl, rfl⟩)
        have hlo : -9218868437227405320 ≤ v ∧ v ≤ 9218868437227405320 := by omega
        generalize v = lo at *
      all_goals
        (try clear c1)
        (try clear c2)
        (try clear hv)
        refine (pick_k rb q _ _ hR1 (by decide)).mono ?_
        rintro e w3 ⟨⟨z, ⟨za, zb⟩, rfl⟩, hR3, hB3⟩
        replace hB1 := hB1.trans hB3
        clear hR1 hB3
        have P : Cel2 (w3.alloc (.cells #[.int .i64 lo, .int .i64 (lo + z)] 42)) w3.heap.size (.int .i64 lo) (.int .i64 (lo + z)) := Cel2.made _ _ rfl _ _ _
        have hs3 := hB1.size
        have hne3 : w3.heap.size ≠ rb := by have := hR3.lt; omega
        have E' := hd (E.out lo (lo + z))
        cases hp : pokB wd lo (lo + z)
        case' true =>
          rw [hp] at E'
          go_wp2_with fail
          refine (E'.out _).mono ?_
          rintro e w4 ⟨rfl, hb4⟩
          replace P := P.later hb4
          have hBr : But rb wr w4 := (hB1.alloc _).trans (But.of hb4)
          replace hR3 := (hR3.alloc _).old hb4
          have p0 := P.1
          have p1 := P.2.1
          have hy : Tgt (lo + z) := by unfold Tgt; omega
          clear hb4 E' hp P hB1
          generalize hyy : lo + z = y at *
          clear hyy
          generalize hww : w4 = wv at *
          clear hww
        case' false =>
          rw [hp] at E'
          go_wp2_with fail
          refine (E'.out _).mono ?_
          rintro e w4 ⟨rfl, hb4⟩
          replace P := P.later hb4
          obtain ⟨q0, q1, q2, q3, q4⟩ := id P
          go_upto_region 14 with fail
          have hBr : But rb wr (w4.setCell ⟨w3.heap.size, 1, none⟩ (.int .i64 (lo + 1))) := ((hB1.alloc _).trans (But.of hb4)).far (p := ⟨w3.heap.size, 1, none⟩) (by simp; omega) _
          replace hR3 := ((hR3.alloc _).old hb4).far w3.heap.size 1 (by have := hR3.lt; omega) (.int .i64 (lo + 1))
          have p0 : (w4.setCell ⟨w3.heap.size, 1, none⟩ (.int .i64 (lo + 1))).cell? ⟨w3.heap.size, 0, none⟩ = some (.int .i64 lo) := by rw [World.cell?_setCell_other _ _ _ _ (by intro h; injection h with _ h2; exact absurd h2 (by decide))]; exact q0
          have p1 : (w4.setCell ⟨w3.heap.size, 1, none⟩ (.int .i64 (lo + 1))).cell? ⟨w3.heap.size, 1, none⟩ = some (.int .i64 (lo + 1)) := World.cell?_setCell_same _ _ _ q1
          have hy : Tgt (lo + 1) := by unfold Tgt; omega
          clear hb4 E' hp P hB1 q0 q1 q2 q3 q4
          generalize lo + 1 = y at *
          generalize hww : w4.setCell ⟨w3.heap.size, 1, none⟩ (.int .i64 y) = wv at *
          clear hww
        all_goals
          have hlo2 : Tgt lo := by unfold Tgt; omega
          replace K := K.but hBr hneK
          replace M := M.but hBr hneM
          replace G := G.but hBr hrbb
          replace hB := hB.trans hBr
          replace hsz := Nat.le_trans hsz hBr.size
          clear hBr
          have O2 := M.alloc (.cells #[.int .i64 lo, .int .i64 y] 42)
          have K2 := K.alloc (.cells #[.int .i64 lo, .int .i64 y] 42)
          have G2 := G.alloc (.cells #[.int .i64 lo, .int .i64 y] 42)
          have B2 := hB.alloc (.cells #[.int .i64 lo, .int .i64 y] 42)
          have R2 := hR3.alloc (.cells #[.int .i64 lo, .int .i64 y] 42)
          have cw := cells_two wv wv.heap.size rfl (.int .i64 lo) (.int .i64 y) 42
          obtain ⟨o0, o1, o2⟩ := id M
          have lo1 := Nat.ne_of_lt o2
          have lo2' := Nat.ne_of_gt o2
          go_wp2_with (at_builtin; refine wpList_append_own _ (by rfl) _ _ 23 (by rfl) base 42 i0 _ 2 16 Try.underlying23 hi hz0 hz1 hz2 rfl (by decide) _ _ _ (by rfl) G2 ⟨wv.heap.size, 0, none⟩ 1 1 [.int .i64 lo, .int .i64 y] (by rfl) rfl cw (by simp [Value.oneCell']) (by rw [hps]; unfold maxLen; omega) (by rw [hps]; omega) (by simp; omega) ?_; intro v' w5 hown hgrow _; rw [hps] at hown; obtain ⟨g', cap', rfl⟩ := ownsRow_succ hown; have O5 := O2.kept hgrow (G2.far hMb); have o5 := O5.1; have f5 := O5.2.1; have l5 := O5.2.2)
          have G5 : Grows w5 base (.slice (some ⟨g', 0, none⟩) (j + 1) cap') (ps ++ [(lo, y)]) := Grows.snoc hps hown
          have K5 := K2.kept hgrow (G2.far hKb)
          have B5 := B2.grown hgrow (fun c e => by have := (World.ownsRow.lt G2 c e).1; omega)
          have R5 := R2.kept hgrow (fun c e => by have := (World.ownsRow.lt G2 c e).1; omega)
          have S5 := hgrow.size
          go_roundw
          case rel => exact ⟨j + 1, _, _, _, ps ++ [(lo, y)], by omega, by go_num, by show _ = _; rw [List.length_append, hps]; rfl, hT.snoc hlo2 hy, G5.set (by omega) _, O5.set _, K5.other _ (by simp <;> omega) _, (R5.mono (by omega)).far _ _ (by omega) _, B5.far (p := ⟨w.heap.size + 1, 0, none⟩) (by simp <;> omega) _, by simp [World.setCell]; simp at S5; omega⟩
          case measure => simp [intOf]; omega
    · obtain rfl : n = j := by omega
      obtain ⟨av', cv', e1, OBx⟩ := G.ob hT.fits
      injection e1 with e1 e2 e3
      subst e1 e2 e3
      have m10 := M.1
      obtain ⟨k0, k1, k2⟩ := id K
      go_wp2
      refine bodyPost_ret (v := .agg #[.slice av ps.length cv]) ?_ rfl ⟨⟨av, cv, ps, rfl, by have := hl.out; omega, hT, (OBx.set1 (by omega) _).mono' (by omega)⟩, (hR.mono (by omega)).far _ _ (by omega) _, hB.far (p := ⟨w.heap.size, 0, none⟩) (by simp <;> omega) _⟩
      simp [results, Try.results79, go_sem, k0]

set_option maxHeartbeats 2000000 in
theorem box31 (w : World) (c : Option Addr) (len cap : Nat) (h : IsCode w c len cap) :
    Calls Try.prog 51 #[.slice c len cap] w fun e w' => (∃ wd av cv ps, (-64 ≤ wd ∧ wd ≤ 64) ∧ e = .returned (.tuple #[.int .i64 wd, .agg #[.slice av (ps : List (Int × Int)).length cv]]) ∧ ps.length ≤ 7 ∧ Tight ps ∧ OB w' w.heap.size av cv ps) ∧ Below w.heap.size w w' := by
  have hB0 : Below w.heap.size w (w.alloc (.cells #[.slice none 0 0] 25)) := (by repeat (first | exact Below.refl _ _ | refine Below.drew ?_ | refine old_alloc ?_ _ | refine old_trans ?_ (by assumption)))
  have K : Cel1 (w.alloc (.cells #[.slice none 0 0] 25)) w.heap.size (.slice none 0 0) := Cel1.made w _ rfl _ _
  replace h := h.old hB0
  have hK0 := K.2.2
  go_enter Try.func51, Try.ntmps51
  go_wp2_with fail
  generalize w.alloc (.cells #[.slice none 0 0] 25) = wy at *
  refine (open_kB wy c len cap h).mono ?_
  rintro e wo ⟨rfl, o, rfl, hR⟩
  have hneK : w.heap.size ≠ wy.heap.size := by omega
  replace K := K.alloc o
  replace hB0 := old_alloc hB0 o
  go_wp2_with fail
  refine (width_k wy.heap.size 99998 _ hR).mono ?_
  rintro e w2 ⟨⟨wd, hwd, rfl⟩, hR2, hB2⟩
  replace K := K.but hB2 hneK
  replace hB0 := old_but hB0 hB2 (by omega)
  clear hR hB2
  go_wp2_with fail
  refine (pick_k wy.heap.size 99997 _ _ hR2 (by decide)).mono ?_
  rintro e w3 ⟨⟨u, ⟨ua, ub⟩, rfl⟩, hR3, hB3⟩
  replace K := K.but hB3 hneK
  replace hB0 := old_but hB0 hB3 (by omega)
  have hs3 := K.2.2
  clear hR2 hB3
  by_cases u0 : u = 0
  case' pos =>
    subst u0
    go_wp2_with fail
    refine (few_k wy.heap.size 1000 wd _ (hR3.mono (by omega))).mono ?_
  case' neg =>
    have uz : (u == 0) = false := by simp; omega
    go_wp2_with fail
    refine (box_k wy.heap.size 1000 wd _ (hR3.mono (by omega))).mono ?_
  all_goals
    rintro e w4 ⟨⟨av, cv, ps, rfl, hl, hT, OBx⟩, hR4, hB4⟩
    replace K := K.but hB4 hneK
    have hBF : Below w.heap.size w w4 := old_but hB0 hB4 (by omega)
    obtain ⟨k0, k1, k2⟩ := id K
    go_wp2
    refine bodyPost_ret (v := .tuple #[.int .i64 wd, .agg #[.slice av ps.length cv]]) ?_ rfl ⟨⟨wd, av, cv, ps, hwd, rfl, hl, hT, (OBx.set1 (b := w.heap.size) (by omega) _).mono' (by omega)⟩, hBF.setCell (p := ⟨w.heap.size, 0, none⟩) (by simp <;> omega) _⟩
    simp [results, Try.results51, go_sem, k0]
end Go.Proofs.Ytpnfkigeagbhpaa

/- The draw of a box and of a place in it. Nothing that was there is written. No condition. -/
namespace Go.Proofs.Ytpnfkigeagbhpaa
open Go.RowKit
set_option linter.unusedVariables false
set_option maxRecDepth 100000

theorem Rk.at500 {w : World} {rb k : Nat} (h : Rk w rb k) : Rk (w.setCell ⟨rb, 1, none⟩ (.int .i64 500)) rb 900000 := by
  obtain ⟨p, hp, hr⟩ := h
  exact ⟨500, by omega, hr.set 500⟩
theorem Rk.cells {w : World} {rb k : Nat} (h : Rk w rb k) : ∃ p : Int, w.cell? ⟨rb, 1, none⟩ = some (.int .i64 p) ∧ w.frozen? ⟨rb, 1, none⟩ = false := by
  obtain ⟨p, hp, a, len, cap, h1, h2, h3, h4, h5⟩ := h
  exact ⟨p, h3, h4⟩

set_option maxHeartbeats 8000000 in
theorem drawBoxSplit (w : World) (cd : Option Addr) (len cap : Nat) (h : IsCode w cd len cap) :
    Calls Try.prog 19 #[.slice cd len cap] w fun e w' => (∃ wd av cv ps at_, (-64 ≤ wd ∧ wd ≤ 64) ∧ e = .returned (.tuple #[.int .i64 wd, .agg #[.slice av (ps : List (Int × Int)).length cv], .int .i64 at_]) ∧ ps.length ≤ 7 ∧ Tight ps ∧ (-2 ≤ at_ ∧ at_ ≤ 8) ∧ OB w' w.heap.size av cv ps) ∧ Below w.heap.size w w' := by
  have hBw : Below w.heap.size w (w.alloc (.cells #[.slice none 0 0] 25)) := (by repeat (first | exact Below.refl _ _ | refine Below.drew ?_ | refine old_alloc ?_ _ | refine old_trans ?_ (by assumption)))
  have T1 : Cel1 (w.alloc (.cells #[.slice none 0 0] 25)) w.heap.size (.slice none 0 0) := Cel1.made w _ rfl _ _
  have hs0 : w.heap.size < (w.alloc (.cells #[.slice none 0 0] 25)).heap.size := by simp
  replace h := h.old hBw
  go_enter Try.func19, Try.ntmps19
  go_wp2_with fail
  generalize w.alloc (.cells #[.slice none 0 0] 25) = wz at *
  refine (box31 wz cd len cap h).mono ?_
  rintro e w1 ⟨⟨wd, av, cv, ps, hwd, rfl, hl, hT, Q⟩, hb1⟩
  replace T1 := T1.later hb1
  replace hBw := old_trans hBw hb1
  replace h := h.old hb1
  have hz := hb1.size
  have P : Cel1 (w1.alloc (.cells #[.slice av ps.length cv] 25)) w1.heap.size (.slice av ps.length cv) := Cel1.made _ _ rfl _ _
  replace T1 := T1.alloc (.cells #[.slice av ps.length cv] 25)
  replace Q := Q.alloc (.cells #[.slice av ps.length cv] 25)
  replace hBw := old_alloc hBw (.cells #[.slice av ps.length cv] 25)
  replace h := h.old ((Below.refl _ _).alloc (Nat.le_refl _) (.cells #[.slice av ps.length cv] 25))
  clear hb1
  go_wp2_with fail
  generalize w1.alloc (.cells #[.slice av ps.length cv] 25) = wy at *
  have hPs := P.2.2
  refine (open_kB wy cd len cap h).mono ?_
  rintro e wo ⟨rfl, o, rfl, hR⟩
  have hql := Q.lt
  have hnw : w.heap.size ≤ wy.heap.size := by omega
  have hnT1 : w.heap.size ≠ wy.heap.size := by omega
  have hnP : w1.heap.size ≠ wy.heap.size := by omega
  replace T1 := T1.alloc o
  replace P := P.alloc o
  replace Q := Q.alloc o
  replace hBw := old_alloc hBw o
  obtain ⟨pz, r0, r1⟩ := hR.cells
  have hB5 : But wy.heap.size (wy.alloc o) ((wy.alloc o).setCell ⟨wy.heap.size, 1, none⟩ (.int .i64 500)) := (But.refl _ _).setCell 1 _
  have hR5 := hR.at500
  go_wp2_with fail
  replace T1 := T1.but hB5 hnT1
  replace P := P.but hB5 hnP
  replace Q := Q.kept (but_grown hB5) (fun q e => by have := hql q e; simp; omega)
  replace hBw := old_but hBw hB5 hnw
  clear hR hB5 r0 r1
  generalize (wy.alloc o).setCell ⟨wy.heap.size, 1, none⟩ (.int .i64 500) = w4 at *
  have hqn : ∀ q, av = some q → some q.block ≠ some wy.heap.size := fun q e => by have := hql q e; simp; omega
  have hlw : IntKind.i64.wrap ((ps.length : Int) + 1) = (ps.length : Int) + 1 := by rw [IntKind.wrap_i64]; omega
  have hn1 : 1 ≤ (ps.length : Int) + 1 := by omega
  have t10 := T1.1
  have t11 := T1.2.1
  have t12 := T1.2.2
  have p0 := P.1
  have hR6 : Rk w4 wy.heap.size (10 + 1) := hR5.mono (by omega)
  clear hR5
  go_region_with (first | (go_at_call 26; have hrx := hRa; refine (pick_k _ 9 _ _ (by first | exact hrx | exact Rk.drewd hrx) (by decide)).mono ?_; rintro e wx ⟨⟨u, ⟨ua, ub⟩, rfl⟩, hRc, hBx⟩; have T1 := (by with_reducible first | exact T1.but hBx hnT1 | exact T1.drew.but hBx hnT1 : Cel1 wx _ _); have P := (by with_reducible first | exact P.but hBx hnP | exact P.drew.but hBx hnP : Cel1 wx _ _); have Q := (by first | exact Q.kept (but_grown hBx) hqn | exact Q.drew.kept (but_grown hBx) hqn : OB wx _ _ _ _); have t10 := T1.1; have t11 := T1.2.1; have t12 := T1.2.2; have p0 := P.1; have hBw := (by with_reducible first | exact old_but hBw hBx hnw | exact old_but (Below.drew hBw) hBx hnw : Below w.heap.size w wx)) | (go_at_call 26; refine (pick_k _ 10 _ _ (by first | exact hR6 | exact Rk.drewd hR6) (by first | exact hn1 | (rw [hlw]; exact hn1))).mono ?_; rintro e wx ⟨⟨v, ⟨va, vb⟩, rfl⟩, hRa, hBx⟩; have T1 := (by with_reducible first | exact T1.but hBx hnT1 | exact T1.drew.but hBx hnT1 : Cel1 wx _ _); have P := (by with_reducible first | exact P.but hBx hnP | exact P.drew.but hBx hnP : Cel1 wx _ _); have Q := (by first | exact Q.kept (but_grown hBx) hqn | exact Q.drew.kept (but_grown hBx) hqn : OB wx _ _ _ _); have t10 := T1.1; have t11 := T1.2.1; have t12 := T1.2.2; have p0 := P.1; have hBw := (by with_reducible first | exact old_but hBw hBx hnw | exact old_but (Below.drew hBw) hBx hnw : Below w.heap.size w wx)))
  all_goals
    go_wp2
    have X1 := (T1.set (.slice av ps.length cv))
    refine bodyPost_ret (v := .tuple #[.int .i64 wd, .agg #[.slice av ps.length cv], .int .i64 (v - u.tdiv 11)]) ?_ rfl ⟨⟨wd, av, cv, ps, v - u.tdiv 11, hwd, rfl, hl, hT, ?_, ?_⟩, ?_⟩
    · simp [results, Try.results19, go_sem, X1.1]
      rw [Int.tdiv_eq_ediv_of_nonneg (by omega), IntKind.wrap_i64, IntKind.wrap_i64]
      omega
    · rw [Int.tdiv_eq_ediv_of_nonneg (by omega)]; omega
    · exact (Q.set1 (b := w.heap.size) (by omega) _).mono' (by omega)
    · repeat (first | with_reducible exact hBw | with_reducible refine Below.drew ?_ | (refine Below.setCell ?_ ?_ _; rotate_left; (first | exact Nat.le_refl _ | exact Nat.le_add_right _ _ | omega)))
end Go.Proofs.Ytpnfkigeagbhpaa

/- The draw of a box, of a place in it and of a gap. Nothing that was there is written. No condition. -/
namespace Go.Proofs.Ytpnfkigeagbhpaa
open Go.RowKit
set_option linter.unusedVariables false
set_option maxRecDepth 100000

set_option maxHeartbeats 400000 in
theorem pick_nought (rb cap len : Nat) (a : Option Addr) (p : Int) (w : World) (p0 : 0 ≤ p) (p1 : p ≤ 1000000)
    (r0 : w.cell? ⟨rb, 0, none⟩ = some (.slice a len cap)) (r1 : w.cell? ⟨rb, 1, none⟩ = some (.int .i64 p)) (rf : w.frozen? ⟨rb, 1, none⟩ = false) :
    Calls Try.prog 26 #[.pointer (some ⟨rb, 0, none⟩), .int .i64 0] w fun e w' => e = .returned (.int .i64 0) ∧ w' = w.setCell ⟨rb, 1, none⟩ (.int .i64 (p + 1)) := by
  go_enter Try.func26, Try.ntmps26
  go_wp2
  go_ret
  exact ⟨rfl, rfl⟩
theorem pickL_k (rb k n : Nat) (w : World) (h : Rk w rb (k + 1)) :
    Calls Try.prog 26 #[.pointer (some ⟨rb, 0, none⟩), .int .i64 (n : Int)] w fun e w' => (∃ v : Nat, (v < n ∨ n = 0 ∧ v = 0) ∧ e = .returned (.int .i64 (v : Int))) ∧ Rk w' rb k ∧ But rb w w' := by
  by_cases hn : n = 0
  · subst hn
    obtain ⟨p, hp, hr⟩ := h
    have hR := hr.set (p + 1)
    obtain ⟨a, len, cap, h0, h1, h2, h3, h4, h5, h6⟩ := hr
    refine (pick_nought rb cap len a p w hp.1 (by omega) h1 h2 h3).mono ?_
    rintro e w' ⟨rfl, rfl⟩
    exact ⟨⟨0, .inr ⟨rfl, rfl⟩, rfl⟩, ⟨p + 1, by omega, hR⟩, (But.refl _ _).setCell _ _⟩
  · refine (pick_k rb k (n : Int) w h (by omega)).mono ?_
    rintro e w' ⟨⟨v, hv, rfl⟩, h2⟩
    obtain ⟨m, rfl⟩ : ∃ m : Nat, v = (m : Int) := ⟨v.toNat, by omega⟩
    exact ⟨⟨m, .inl (by omega), rfl⟩, h2⟩

set_option maxHeartbeats 8000000 in
theorem drawBoxCut (w : World) (cd : Option Addr) (len cap : Nat) (h : IsCode w cd len cap) :
    Calls Try.prog 22 #[.slice cd len cap] w fun e w' => (∃ wd av cv ps at_ gc gd, (-64 ≤ wd ∧ wd ≤ 64) ∧ e = .returned (.tuple #[.int .i64 wd, .agg #[.slice av (ps : List (Int × Int)).length cv], .int .i64 at_, .agg #[.int .i64 gc, .int .i64 gd]]) ∧ ps.length ≤ 7 ∧ Tight ps ∧ ((-9223372036854775808 ≤ gc ∧ gc ≤ 9223372036854775807) ∧ -9223372036854775808 ≤ gd ∧ gd ≤ 9223372036854775807) ∧ OB w' w.heap.size av cv ps) ∧ Below w.heap.size w w' := by
  have hBw : Below w.heap.size w ((w.alloc (.cells #[.slice none 0 0] 25)).alloc (.cells #[.int .i64 0, .int .i64 0] 42)) := (by repeat (first | exact Below.refl _ _ | refine Below.drew ?_ | refine old_alloc ?_ _ | refine old_trans ?_ (by assumption)))
  have T1 : Cel1 ((w.alloc (.cells #[.slice none 0 0] 25)).alloc (.cells #[.int .i64 0, .int .i64 0] 42)) w.heap.size (.slice none 0 0) := (Cel1.made w _ rfl _ _).alloc _
  have T5 : Cel2 ((w.alloc (.cells #[.slice none 0 0] 25)).alloc (.cells #[.int .i64 0, .int .i64 0] 42)) (w.heap.size + 1) (.int .i64 0) (.int .i64 0) := Cel2.made _ _ (by simp) _ _ _
  have hs0 : w.heap.size + 1 < ((w.alloc (.cells #[.slice none 0 0] 25)).alloc (.cells #[.int .i64 0, .int .i64 0] 42)).heap.size := by simp
  replace h := h.old hBw
  go_enter Try.func22, Try.ntmps22
  go_wp2_with fail
  generalize ((w.alloc (.cells #[.slice none 0 0] 25)).alloc (.cells #[.int .i64 0, .int .i64 0] 42)) = wz at *
  refine (box31 wz cd len cap h).mono ?_
  rintro e w1 ⟨⟨wd, av, cv, ps, hwd, rfl, hl, hT, Q⟩, hb1⟩
  replace T1 := T1.later hb1
  replace T5 := T5.later hb1
  replace hBw := old_trans hBw hb1
  replace h := h.old hb1
  have hz := hb1.size
  have P : Cel1 (w1.alloc (.cells #[.slice av ps.length cv] 25)) w1.heap.size (.slice av ps.length cv) := Cel1.made _ _ rfl _ _
  replace T1 := T1.alloc (.cells #[.slice av ps.length cv] 25)
  replace T5 := T5.alloc (.cells #[.slice av ps.length cv] 25)
  replace Q := Q.alloc (.cells #[.slice av ps.length cv] 25)
  replace hBw := old_alloc hBw (.cells #[.slice av ps.length cv] 25)
  replace h := h.old ((Below.refl _ _).alloc (Nat.le_refl _) (.cells #[.slice av ps.length cv] 25))
  clear hb1
  go_wp2_with fail
  generalize w1.alloc (.cells #[.slice av ps.length cv] 25) = wy at *
  have hPs := P.2.2
  refine (open_kB wy cd len cap h).mono ?_
  rintro e wo ⟨rfl, o, rfl, hR⟩
  have hql := Q.lt
  have hnw : w.heap.size ≤ wy.heap.size := by omega
  have hnT1 : w.heap.size ≠ wy.heap.size := by omega
  have hnT5 : w.heap.size + 1 ≠ wy.heap.size := by omega
  have hnP : w1.heap.size ≠ wy.heap.size := by omega
  have hqn : ∀ q, av = some q → some q.block ≠ some wy.heap.size := fun q e => by have := hql q e; simp; omega
  replace T1 := T1.alloc o
  replace T5 := T5.alloc o
  replace P := P.alloc o
  replace Q := Q.alloc o
  replace hBw := old_alloc hBw o
  obtain ⟨pz, r0, r1⟩ := hR.cells
  have hB5 : But wy.heap.size (wy.alloc o) ((wy.alloc o).setCell ⟨wy.heap.size, 1, none⟩ (.int .i64 500)) := (But.refl _ _).setCell 1 _
  have hR5 := hR.at500
  have p0 := (P.but hB5 hnP).1
  go_wp2_with fail
  refine (pickL_k _ 800000 _ _ (hR5.mono (by omega))).mono ?_
  rintro e w5 ⟨⟨at0, hat, rfl⟩, hR6, hB6⟩
  clear p0 r0 r1 hR5 hR
  replace hB6 := hB5.trans hB6
  replace T1 := T1.but hB6 hnT1
  replace T5 := T5.but hB6 hnT5
  replace P := P.but hB6 hnP
  replace Q := Q.kept (but_grown hB6) hqn
  replace hBw := old_but hBw hB6 hnw
  have hys := hB6.size
  simp at hys
  clear hB5 hB6
  have hnG : w5.heap.size ≠ wy.heap.size := by omega
  have GP : Cel2 (w5.alloc (.cells #[.int .i64 0, .int .i64 0] 42)) w5.heap.size (.int .i64 0) (.int .i64 0) := Cel2.made _ _ rfl _ _ _
  replace T1 := T1.alloc (.cells #[.int .i64 0, .int .i64 0] 42)
  replace T5 := T5.alloc (.cells #[.int .i64 0, .int .i64 0] 42)
  replace P := P.alloc (.cells #[.int .i64 0, .int .i64 0] 42)
  replace Q := Q.alloc (.cells #[.int .i64 0, .int .i64 0] 42)
  replace hR6 := hR6.alloc (.cells #[.int .i64 0, .int .i64 0] 42)
  replace hBw := old_alloc hBw (.cells #[.int .i64 0, .int .i64 0] 42)
  have hgT1 : w.heap.size ≠ w5.heap.size := by omega
  have hgT5 : w.heap.size + 1 ≠ w5.heap.size := by omega
  have hgP : w1.heap.size ≠ w5.heap.size := by omega
  have p0 := P.1
  have hat7 : (at0 : Int) ≤ 7 := by omega
  have hcase : ps.length = 0 ∨ (0 < ps.length ∧ at0 < ps.length) := by omega
  rcases hcase with h0 | ⟨h0, ha⟩
  case' inl =>
    have hd0 : decide (0 < (ps.length : Int)) = false := decide_eq_false (by omega)
    go_wp2_with fail
    generalize w5.alloc (.cells #[.int .i64 0, .int .i64 0] 42) = w8 at *
    obtain ⟨gc, hgc⟩ : ∃ gc : Int, gc = 0 := ⟨_, rfl⟩
    obtain ⟨gd, hgd⟩ : ∃ gd : Int, gd = 0 := ⟨_, rfl⟩
    have hgg : (-9223372036854775808 ≤ gc ∧ gc ≤ 9223372036854775807) ∧ -9223372036854775808 ≤ gd ∧ gd ≤ 9223372036854775807 := by omega
    replace GP : Cel2 w8 w5.heap.size (.int .i64 gc) (.int .i64 gd) := by subst hgc hgd; exact GP
    clear hgc hgd
  case' inr =>
    have hd0 : decide (0 < (ps.length : Int)) = true := decide_eq_true (by omega)
    obtain ⟨b, off, p, q, rfl, hbl, hx, hpq, c0, c1⟩ := Q.inRow.at ha
    have hpq2 := hT.at ha hx
    unfold Tgt at hpq2
    have haI : (at0 : Int) < (ps.length : Int) := by omega
    have haI0 : (0 : Int) ≤ (at0 : Int) := by omega
    go_wp2_with fail
    generalize w5.alloc (.cells #[.int .i64 0, .int .i64 0] 42) = w7 at *
    refine (within_k _ 700000 wd p q _ (hR6.mono (by omega)) (by omega)).mono ?_
    rintro e w8' ⟨⟨gc, gd, hgg, rfl⟩, hR8, hB8⟩
    replace T1 := T1.but hB8 hnT1
    replace T5 := T5.but hB8 hnT5
    replace P := P.but hB8 hnP
    replace GP := GP.but hB8 hnG
    replace Q := Q.kept (but_grown hB8) hqn
    replace hBw := old_but hBw hB8 hnw
    clear hB8 hR6 c0 c1 p0
    obtain ⟨y0, y1, y2, y3, y4⟩ := id GP
    have p0 := P.1
    go_upto_region 8 with fail
    replace T1 := (T1.other ⟨w5.heap.size, 0, none⟩ (by simp <;> omega) (.int .i64 gc)).other ⟨w5.heap.size, 1, none⟩ (by simp <;> omega) (.int .i64 gd)
    replace P := (P.other ⟨w5.heap.size, 0, none⟩ (by simp <;> omega) (.int .i64 gc)).other ⟨w5.heap.size, 1, none⟩ (by simp <;> omega) (.int .i64 gd)
    replace T5 := T5.others w5.heap.size hgT5 (.int .i64 gc) (.int .i64 gd)
    replace GP := GP.stored (.int .i64 gc) (.int .i64 gd)
    have hG2 : w8'.grownBy ((w8'.setCell ⟨w5.heap.size, 0, none⟩ (.int .i64 gc)).setCell ⟨w5.heap.size, 1, none⟩ (.int .i64 gd)) (some w5.heap.size) := but_grown (((But.refl w5.heap.size w8').setCell 0 _).setCell 1 _)
    replace Q := Q.kept hG2 (fun q e => by have := hql q e; simp; omega)
    replace hR6 := (hR8.kept hG2 (fun b e => by cases e; omega)).mono (show 100000 ≤ 700000 by omega)
    replace hBw := (hBw.setCell (p := ⟨w5.heap.size, 0, none⟩) (by simp <;> omega) (.int .i64 gc)).setCell (p := ⟨w5.heap.size, 1, none⟩) (by simp <;> omega) (.int .i64 gd)
    clear hG2 hR8 y0 y1 y2 y3 y4 p0
    generalize (w8'.setCell ⟨w5.heap.size, 0, none⟩ (.int .i64 gc)).setCell ⟨w5.heap.size, 1, none⟩ (.int .i64 gd) = w8 at *
    generalize hav : (some (⟨b, off, none⟩ : Addr)) = av at *
    clear hav
  all_goals
    have hR7 : Rk w8 wy.heap.size (10 + 1) := hR6.mono (by omega)
    (try clear p0)
    have t10 := T1.1
    have t11 := T1.2.1
    have t12 := T1.2.2
    have p0 := P.1
    obtain ⟨t50, t51, t52, t53, t54⟩ := id T5
    have g0 := GP.1
    have g1 := GP.2.1
    go_region_with (go_at_call 26; refine (pick_k _ 10 _ _ (by first | exact hR7 | exact Rk.drewd hR7) (by decide)).mono ?_; rintro e wx ⟨⟨u, ⟨ua, ub⟩, rfl⟩, hRa, hBx⟩; have T1 := (by with_reducible first | exact T1.but hBx hnT1 | exact T1.drew.but hBx hnT1 : Cel1 wx _ _); have T5 := (by with_reducible first | exact T5.but hBx hnT5 | exact T5.drew.but hBx hnT5 : Cel2 wx _ _ _); have P := (by with_reducible first | exact P.but hBx hnP | exact P.drew.but hBx hnP : Cel1 wx _ _); have GP := (by with_reducible first | exact GP.but hBx hnG | exact GP.drew.but hBx hnG : Cel2 wx _ _ _); have Q := (by first | exact Q.kept (but_grown hBx) hqn | exact Q.drew.kept (but_grown hBx) hqn : OB wx _ _ _ _); have t10 := T1.1; have t11 := T1.2.1; have t12 := T1.2.2; have p0 := P.1; obtain ⟨t50, t51, t52, t53, t54⟩ := id T5; have g0 := GP.1; have g1 := GP.2.1; have hBw := (by with_reducible first | exact old_but hBw hBx hnw | exact old_but (Below.drew hBw) hBx hnw : Below w.heap.size w wx))
    all_goals
      go_wp2
      have X1 := (T1.set (.slice av ps.length cv)).other ⟨w.heap.size + 1, 0, none⟩ (by simp <;> omega) (.int .i64 gc)
      have X5 := (T5.other w.heap.size 0 (by omega) (.slice av ps.length cv)).stored (.int .i64 gc) (.int .i64 gd)
      refine bodyPost_ret (v := .tuple #[.int .i64 wd, .agg #[.slice av ps.length cv], .int .i64 (IntKind.i64.wrap (at0 - IntKind.i64.wrap (u.tdiv 23))), .agg #[.int .i64 gc, .int .i64 gd]]) ?_ rfl ⟨⟨wd, av, cv, ps, IntKind.i64.wrap (at0 - IntKind.i64.wrap (u.tdiv 23)), gc, gd, hwd, rfl, hl, hT, hgg, ?_⟩, ?_⟩
      · have X1' := X1.other ⟨w.heap.size + 1, 1, none⟩ (by simp <;> omega) (.int .i64 gd)
        first
          | (simp [results, Try.results22, go_sem, X1'.1, X5.1, X5.2.1]; done)
          | (rw [h0] at X1' X5; simp [results, Try.results22, go_sem, X1'.1, X5.1, X5.2.1, h0]; done)
      · exact ((Q.set1 (b := w.heap.size) (by omega) _).kept (but_grown (((But.refl (w.heap.size + 1) _).setCell 0 _).setCell 1 _)) (fun q e => by have := Q.ge q e; simp; omega)).mono' (by omega)
      · repeat (first | with_reducible exact hBw | with_reducible refine Below.drew ?_ | (refine Below.setCell ?_ ?_ _; rotate_left; (first | exact Nat.le_refl _ | exact Nat.le_add_right _ _ | omega)))
end Go.Proofs.Ytpnfkigeagbhpaa
