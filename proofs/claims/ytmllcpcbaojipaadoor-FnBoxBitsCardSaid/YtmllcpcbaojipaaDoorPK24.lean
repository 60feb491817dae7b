/- The draw of a box: some pairs, in memory of their own; the reader some places further, all other old memory as it was. No condition. -/
import Derived.Test.YtmllcpcbaojipaaDoorPK23
import Derived.Deep.AppendLies
import Derived.Deep.RegionLaw
import Derived.Test.YtmllcpcbaojipaaDoorPK06
import Derived.Test.YtmllcpcbaojipaaDoorPK22
namespace Go.Proofs.YtmllcpcbaojipaaDoor
open Go.RowKit
set_option linter.unusedVariables false
set_option maxRecDepth 100000

set_option maxRecDepth 100000 in
set_option maxHeartbeats 8000000 in
theorem box_k (rb k : Nat) (wd : Int) (w : World) (h : Rk w rb (k + 1500)) :
    Calls Tryd.prog 26 #[.pointer (some ⟨rb, 0, none⟩), .int .i64 wd] w fun e w' => (∃ av cv ps, e = .returned (.agg #[.slice av (ps : List (Int × Int)).length cv]) ∧ ps.length ≤ 7 ∧ Tight ps ∧ OB w' w.heap.size av cv ps) ∧ Rk w' rb k ∧ But rb w w' := by
  have hlt := h.lt
  have hneK : w.heap.size ≠ rb := by omega
  have hneM : w.heap.size + 1 ≠ rb := by omega
  have K : Cel1 ((w.alloc (.cells #[.slice none 0 0] 25)).alloc (.cells #[.slice none 0 0] 25)) w.heap.size (.slice none 0 0) := (Cel1.made w _ rfl _ _).alloc _
  have M : Cel1 ((w.alloc (.cells #[.slice none 0 0] 25)).alloc (.cells #[.slice none 0 0] 25)) (w.heap.size + 1) (.slice none 0 0) := Cel1.made _ _ (by simp) _ _
  have hB : But rb w ((w.alloc (.cells #[.slice none 0 0] 25)).alloc (.cells #[.slice none 0 0] 25)) := ((But.refl _ _).alloc _).alloc _
  have hR := (h.alloc (.cells #[.slice none 0 0] 25)).alloc (.cells #[.slice none 0 0] 25)
  obtain ⟨base, hbase⟩ : ∃ base, base = w.heap.size + 2 := ⟨_, rfl⟩
  have hMb : w.heap.size + 1 < base := by omega
  have hKb : w.heap.size < base := by omega
  have hrbb : rb < base := by omega
  have hsz : base ≤ ((w.alloc (.cells #[.slice none 0 0] 25)).alloc (.cells #[.slice none 0 0] 25)).heap.size := by simp; omega
  obtain ⟨i0, hi, hz0, hz1, hz2⟩ := info_parts infoPair
  clear h
  go_enter Tryd.func26, Tryd.ntmps26
  go_wp2_with fail
  generalize (w.alloc (.cells #[.slice none 0 0] 25)).alloc (.cells #[.slice none 0 0] 25) = wz at *
  refine (pick_k rb (k + 1499) _ _ hR (by decide)).mono ?_
  rintro e wa ⟨⟨u, ⟨ua, ub⟩, rfl⟩, hRa, hBa⟩
  replace K := K.but hBa hneK
  replace M := M.but hBa hneM
  replace hB := hB.trans hBa
  replace hsz := Nat.le_trans hsz hBa.size
  clear hR hBa
  go_wp2_with fail
  refine (pick_k rb (k + 1498) _ _ hRa (by decide)).mono ?_
  rintro e wb ⟨⟨v, ⟨va, vb⟩, rfl⟩, hRb, hBb⟩
  replace K := K.but hBb hneK
  replace M := M.but hBb hneM
  replace hB := hB.trans hBb
  replace hsz := Nat.le_trans hsz hBb.size
  clear hRa hBb
  have key : ∀ (n : Int) (wc : World), 0 ≤ n → n ≤ 7 → Rk wc rb (k + 1490) → But rb w wc → Cel1 wc w.heap.size (.slice none 0 0) → Cel1 wc (w.heap.size + 1) (.slice none 0 0) → base ≤ wc.heap.size → True := fun _ _ _ _ _ _ _ _ _ => trivial
  clear key
  by_cases hv : v = 0
  case' pos =>
    subst hv
    go_wp2_with fail
    refine (pick_k rb (k + 1497) _ _ hRb (by decide)).mono ?_
    rintro e wc ⟨⟨n, ⟨na, nb⟩, rfl⟩, hR, hBc⟩
    replace K := K.but hBc hneK
    replace M := M.but hBc hneM
    replace hB := hB.trans hBc
    replace hsz := Nat.le_trans hsz hBc.size
    replace hR := hR.mono (show k + 1490 ≤ k + 1497 by omega)
    clear hRb hBc
    go_wp2_with fail
  case' neg =>
    have hv2 : (v == 0) = false := by simp; exact hv
    have na : 0 ≤ 1 + u := by omega
    have nb : 1 + u < 8 := by omega
    have hR := hRb.mono (show k + 1490 ≤ k + 1498 by omega)
    clear hRb
    generalize wb = wc at *
    clear hv
    go_wp2_with fail
    generalize 1 + u = n at *
  all_goals
    go_loopw [7] (fun i wr => ∃ (j : Nat) (av : Option Addr) (nv cv : Nat) (ps : List (Int × Int)), (j : Int) ≤ n ∧ i = .int .i64 j ∧ Hid (ps.length = j) ∧ Tight ps ∧ Grows wr base (.slice av nv cv) ps ∧ Cel1 wr (w.heap.size + 1) (.slice av nv cv) ∧ Cel1 wr w.heap.size (.slice none 0 0) ∧ Rk wr rb (k + (7 - j) * 200 + 10) ∧ But rb w wr ∧ base ≤ wr.heap.size) (fun i _ => n.toNat - (intOf i).toNat)
    case atStart => exact ⟨0, none, 0, 0, [], na, rfl, rfl, Tight.nil, Grows.nil _ _, M, K, hR.mono (by omega), hB, hsz⟩
    case round =>
      clear K M hR hB hsz
      obtain ⟨j, av, nv, cv, ps, hj, rfl, hl, hT, G, M, K, hR, hB, hsz⟩ := hrel
      by_cases hjn : (j : Int) < n
      · obtain ⟨q, hq⟩ : ∃ q, q = k + (7 - (j + 1)) * 200 + 10 := ⟨_, rfl⟩
        replace hR := hR.mono (show q + 200 ≤ k + (7 - j) * 200 + 10 by omega)
        go_wp2_with fail
        refine (pick_k rb (q + 199) _ _ hR (by decide)).mono ?_
        rintro e w1 ⟨⟨v1, ⟨v1a, v1b⟩, rfl⟩, hR1, hB1⟩
        replace K := K.but hB1 hneK
        replace M := M.but hB1 hneM
        replace G := G.but hB1 hrbb
        replace hB := hB.trans hB1
        replace hsz := Nat.le_trans hsz hB1.size
        clear hR hB1
        have m10 := M.1
        have hps := hl.out
        have hj7 : j < 7 := by omega
        by_cases hv1 : v1 = 0
        case' pos =>
          subst hv1
          go_wp2_with fail
          go_region_law (first | (refine step_append_lies _ (by rfl) _ _ 23 (by rfl) base 40 i0 _ 2 16 Tryd.underlying23 hi hz0 hz1 hz2 rfl (by decide) _ ps.length (flat ps) (by rfl) (G2.alloc (.cells #[.int .i64 x, .int .i64 y] 40)) ⟨w2.heap.size, 0, none⟩ 1 1 [.int .i64 x, .int .i64 y] (by rfl) rfl (cells_two _ _ rfl _ _ _) (by simp [Value.oneCell']) (by decide) (by unfold maxLen; omega) (by omega) (by simp at ms2 ⊢; omega) _ rfl ?_; intro g' cap' w5 hown hgrow hat5 hlt5; have O5 := (M2.alloc (.cells #[.int .i64 x, .int .i64 y] 40)).kept hgrow (G2.far hMb); have o5 := O5.1; have f5 := O5.2.1; have l5 := O5.2.2) | (go_simp; go_at_call 48; refine (pairT_k rb (q + 170) wd _ (hR1.drewd)).mono ?_; rintro e w2 ⟨⟨x, y, hxy, rfl⟩, hR2, hB2⟩; have M2 := M.drew.but hB2 hneM; have K2 := K.drew.but hB2 hneK; have G2 := G.drewd.but hB2 hrbb; have m20 := M2.1; have ms2 := hB2.size; have ml2 := Nat.ne_of_lt M2.2.2; have mg2 := Nat.ne_of_gt M2.2.2; have m21 := (M2.alloc (.cells #[.int .i64 x, .int .i64 y] 40)).1))
        case' neg =>
          have hv3 : (v1 == 0) = false := by simp; exact hv1
          go_wp2_with fail
          go_region_law (first | (refine step_append_lies _ (by rfl) _ _ 23 (by rfl) base 40 i0 _ 2 16 Tryd.underlying23 hi hz0 hz1 hz2 rfl (by decide) _ ps.length (flat ps) (by rfl) (G2.alloc (.cells #[.int .i64 x, .int .i64 y] 40)) ⟨w2.heap.size, 0, none⟩ 1 1 [.int .i64 x, .int .i64 y] (by rfl) rfl (cells_two _ _ rfl _ _ _) (by simp [Value.oneCell']) (by decide) (by unfold maxLen; omega) (by omega) (by simp at ms2 ⊢; omega) _ rfl ?_; intro g' cap' w5 hown hgrow hat5 hlt5; have O5 := (M2.alloc (.cells #[.int .i64 x, .int .i64 y] 40)).kept hgrow (G2.far hMb); have o5 := O5.1; have f5 := O5.2.1; have l5 := O5.2.2) | (go_simp; go_at_call 49; refine (goodT_k rb (q + 25) wd _ (hR1.drewd)).mono ?_; rintro e w2 ⟨⟨x, y, hxy, rfl⟩, hR2, hB2⟩; have M2 := M.drew.but hB2 hneM; have K2 := K.drew.but hB2 hneK; have G2 := G.drewd.but hB2 hrbb; have m20 := M2.1; have ms2 := hB2.size; have ml2 := Nat.ne_of_lt M2.2.2; have mg2 := Nat.ne_of_gt M2.2.2; have m21 := (M2.alloc (.cells #[.int .i64 x, .int .i64 y] 40)).1))
        all_goals
          have K5 := (K2.alloc (.cells #[.int .i64 x, .int .i64 y] 40)).kept hgrow (G2.far hKb)
          have G5 : Grows w5 base (.slice (some ⟨g', 0, none⟩) (j + 1) cap') (ps ++ [(x, y)]) := Grows.snoc hps (by rw [hps] at hown; exact hown)
          have B5 := ((hB.drew.trans hB2).alloc (.cells #[.int .i64 x, .int .i64 y] 40)).grown hgrow (fun c e => by have := (World.ownsRow.lt G2 c e).1; omega)
          have R5 := (hR2.alloc (.cells #[.int .i64 x, .int .i64 y] 40)).kept hgrow (fun c e => by have := (World.ownsRow.lt G2 c e).1; omega)
          have S5 := hgrow.size
          go_wp2
          go_roundw
          case rel => exact ⟨j + 1, _, _, _, ps ++ [(x, y)], by omega, by go_num, by show _ = _; rw [List.length_append, hps]; rfl, hT.snoc hxy.1 hxy.2, G5.set (by omega) _, O5.set _, K5.other _ (by simp <;> omega) _, (R5.mono (by omega)).far _ _ (by omega) _, B5.far (p := ⟨w.heap.size + 1, 0, none⟩) (by simp <;> omega) _, by simp [World.setCell]; simp at S5; simp at ms2; omega⟩
          case measure => simp [intOf]; omega
      · obtain rfl : n = j := by omega
        obtain ⟨av', cv', e1, OBx⟩ := G.ob hT.fits
        injection e1 with e1 e2 e3
        subst e1 e2 e3
        have m10 := M.1
        obtain ⟨k0, k1, k2⟩ := id K
        go_wp2
        refine bodyPost_ret (v := .agg #[.slice av ps.length cv]) ?_ rfl ⟨⟨av, cv, ps, rfl, by have := hl.out; omega, hT, (OBx.set1 (by omega) _).mono' (by omega)⟩, (hR.mono (by omega)).far _ _ (by omega) _, hB.far (p := ⟨w.heap.size, 0, none⟩) (by simp <;> omega) _⟩
        simp [results, Tryd.results26, go_sem, k0]
end Go.Proofs.YtmllcpcbaojipaaDoor

/- The draw of a box of few steps, and of a width and a box. Nothing that was there is written but the reader. No condition. -/
namespace Go.Proofs.YtmllcpcbaojipaaDoor
open Go.RowKit
set_option linter.unusedVariables false
set_option maxRecDepth 100000

theorem topI_bd5 (wd : Int) : 0 ≤ topI wd ∧ topI wd ≤ 9218868437227405312 := by unfold topI; split <;> (try split) <;> omega
set_option maxRecDepth 100000 in
set_option maxHeartbeats 8000000 in
theorem few_k (rb k : Nat) (wd : Int) (w : World) (h : Rk w rb (k + 100)) :
    Calls Tryd.prog 32 #[.pointer (some ⟨rb, 0, none⟩), .int .i64 wd] w fun e w' => (∃ av cv ps, e = .returned (.agg #[.slice av (ps : List (Int × Int)).length cv]) ∧ ps.length ≤ 7 ∧ Tight ps ∧ OB w' w.heap.size av cv ps) ∧ Rk w' rb k ∧ But rb w w' := by
  have hlt := h.lt
  have hneK : w.heap.size ≠ rb := by omega
  have hneM : w.heap.size + 1 ≠ rb := by omega
  have K : Cel1 ((w.alloc (.cells #[.slice none 0 0] 25)).alloc (.cells #[.slice none 0 0] 25)) w.heap.size (.slice none 0 0) := (Cel1.made w _ rfl _ _).alloc _
  have M : Cel1 ((w.alloc (.cells #[.slice none 0 0] 25)).alloc (.cells #[.slice none 0 0] 25)) (w.heap.size + 1) (.slice none 0 0) := Cel1.made _ _ (by simp) _ _
  have hB : But rb w ((w.alloc (.cells #[.slice none 0 0] 25)).alloc (.cells #[.slice none 0 0] 25)) := ((But.refl _ _).alloc _).alloc _
  have hR := (h.alloc (.cells #[.slice none 0 0] 25)).alloc (.cells #[.slice none 0 0] 25)
  obtain ⟨base, hbase⟩ : ∃ base, base = w.heap.size + 2 := ⟨_, rfl⟩
  have hMb : w.heap.size + 1 < base := by omega
  have hKb : w.heap.size < base := by omega
  have hrbb : rb < base := by omega
  have hsz : base ≤ (((w.alloc (.cells #[.slice none 0 0] 25)).alloc (.cells #[.slice none 0 0] 25))).heap.size := by simp; omega
  have TT := hd (sTopR wd)
  have hT0 := topI_bd5 wd
  have E := hd (fun (a b : Int) => sPairOk wd a b)
  generalize topI wd = T at *
  obtain ⟨i0, hi, hz0, hz1, hz2⟩ := info_parts infoPair
  clear h hbase
  go_enter Tryd.func32, Tryd.ntmps32
  go_wp2_with fail
  generalize ((w.alloc (.cells #[.slice none 0 0] 25)).alloc (.cells #[.slice none 0 0] 25)) = wz at *
  refine (pick_k rb (k + 99) _ _ hR (by decide)).mono ?_
  rintro e wa ⟨⟨u, ⟨ua, ub⟩, rfl⟩, hRa, hBa⟩
  replace K := K.but hBa hneK
  replace M := M.but hBa hneM
  replace hB := hB.trans hBa
  replace hsz := Nat.le_trans hsz hBa.size
  clear hR hBa
  go_wp2_with fail
  have na : 0 ≤ 1 + u := by omega
  have nb : 1 + u ≤ 3 := by omega
  generalize 1 + u = n at *
  go_loopw [7] (fun i wr => ∃ (j : Nat) (av : Option Addr) (nv cv : Nat) (ps : List (Int × Int)), (j : Int) ≤ n ∧ i = .int .i64 j ∧ Hid (ps.length = j) ∧ Tight ps ∧ Grows wr base (.slice av nv cv) ps ∧ Cel1 wr (w.heap.size + 1) (.slice av nv cv) ∧ Cel1 wr w.heap.size (.slice none 0 0) ∧ Rk wr rb (k + (3 - j) * 20) ∧ But rb w wr ∧ base ≤ wr.heap.size) (fun i _ => n.toNat - (intOf i).toNat)
  case atStart => exact ⟨0, none, 0, 0, [], na, rfl, rfl, Tight.nil, Grows.nil _ _, M, K, hRa.mono (by omega), hB, hsz⟩
  case round =>
    clear K M hRa hB hsz
    obtain ⟨j, av, nv, cv, ps, hj, rfl, hl, hT, G, M, K, hR, hB, hsz⟩ := hrel
    by_cases hjn : (j : Int) < n
    · obtain ⟨q, hq⟩ : ∃ q, q = k + (3 - (j + 1)) * 20 := ⟨_, rfl⟩
      replace hR := hR.mono (show q + 1 + 13 ≤ k + (3 - j) * 20 by omega)
      have hps := hl.out
      have hj7 : j < 3 := by omega
      go_wp2_with fail
      refine (ordT_any wd rb (q + 1) _ hR).mono ?_
      rintro e w1 ⟨⟨v, hv, rfl⟩, hR1, hB1⟩
      clear hR
      have h4 : (T - 20 ≤ v ∧ T - 20 < -T) ∨ (T - 20 ≤ v ∧ ¬ T - 20 < -T) ∨ (¬ T - 20 ≤ v ∧ v < -T) ∨ (¬ T - 20 ≤ v ∧ ¬ v < -T) := by omega
      have hT1 := hT0.1
      have hT2 := hT0.2
      rcases h4 with ⟨c1, c2⟩ | ⟨c1, c2⟩ | ⟨c1, c2⟩ | ⟨c1, c2⟩
      case' inl =>
        go_wp2_with (go_at_call 43; refine (TT.out _).mono ?_; rintro e wt ⟨rfl, rfl⟩)
        have hlo : -9218868437227405320 ≤ -T ∧ -T ≤ 9218868437227405320 := by omega
        generalize -T = lo at *
      case' inr.inl =>
        go_wp2_with (go_at_call 43; refine (TT.out _).mono ?_; rintro e wt ⟨rfl, rfl⟩)
        have hlo : -9218868437227405320 ≤ T - 20 ∧ T - 20 ≤ 9218868437227405320 := by omega
        generalize T - 20 = lo at *
      case' inr.inr.inl =>
        go_wp2_with (go_at_call 43; refine (TT.out _).mono ?_; rintro e wt ⟨rfl, rfl⟩)
        have hlo : -9218868437227405320 ≤ -T ∧ -T ≤ 9218868437227405320 := by omega
        generalize -T = lo at *
      case' inr.inr.inr =>
        go_wp2_with (go_at_call 43; refine (TT.out _).mono ?_; rintro e wt ⟨rfl, rfl⟩)
        have hlo : -9218868437227405320 ≤ v ∧ v ≤ 9218868437227405320 := by omega
        generalize v = lo at *
      all_goals
        (try clear c1)
        (try clear c2)
        (try clear hv)
        refine (pick_k rb q _ _ hR1 (by decide)).mono ?_
        rintro e w3 ⟨⟨z, ⟨za, zb⟩, rfl⟩, hR3, hB3⟩
        replace hB1 := hB1.trans hB3
        clear hR1 hB3
        have P : Cel2 (w3.alloc (.cells #[.int .i64 lo, .int .i64 (lo + z)] 40)) w3.heap.size (.int .i64 lo) (.int .i64 (lo + z)) := Cel2.made _ _ rfl _ _ _
        have hs3 := hB1.size
        have hne3 : w3.heap.size ≠ rb := by have := hR3.lt; omega
        have E' := hd (E.out lo (lo + z))
        cases hp : pokB wd lo (lo + z)
        case' true =>
          rw [hp] at E'
          go_wp2_with fail
          refine (E'.out _).mono ?_
          rintro e w4 ⟨rfl, hb4⟩
          replace P := P.later hb4
          have hBr : But rb wr w4 := (hB1.alloc _).trans (But.of hb4)
          replace hR3 := (hR3.alloc _).old hb4
          have p0 := P.1
          have p1 := P.2.1
          have hy : Tgt (lo + z) := by unfold Tgt; omega
          clear hb4 E' hp P hB1
          generalize hyy : lo + z = y at *
          clear hyy
          generalize hww : w4 = wv at *
          clear hww
        case' false =>
          rw [hp] at E'
          go_wp2_with fail
          refine (E'.out _).mono ?_
          rintro e w4 ⟨rfl, hb4⟩
          replace P := P.later hb4
          obtain ⟨q0, q1, q2, q3, q4⟩ := id P
          go_upto_region 14 with fail
          have hBr : But rb wr (w4.setCell ⟨w3.heap.size, 1, none⟩ (.int .i64 (lo + 1))) := ((hB1.alloc _).trans (But.of hb4)).far (p := ⟨w3.heap.size, 1, none⟩) (by simp; omega) _
          replace hR3 := ((hR3.alloc _).old hb4).far w3.heap.size 1 (by have := hR3.lt; omega) (.int .i64 (lo + 1))
          have p0 : (w4.setCell ⟨w3.heap.size, 1, none⟩ (.int .i64 (lo + 1))).cell? ⟨w3.heap.size, 0, none⟩ = some (.int .i64 lo) := by rw [World.cell?_setCell_other _ _ _ _ (by intro h; injection h with _ h2; exact absurd h2 (by decide))]; exact q0
          have p1 : (w4.setCell ⟨w3.heap.size, 1, none⟩ (.int .i64 (lo + 1))).cell? ⟨w3.heap.size, 1, none⟩ = some (.int .i64 (lo + 1)) := World.cell?_setCell_same _ _ _ q1
          have hy : Tgt (lo + 1) := by unfold Tgt; omega
          clear hb4 E' hp P hB1 q0 q1 q2 q3 q4
          generalize lo + 1 = y at *
          generalize hww : w4.setCell ⟨w3.heap.size, 1, none⟩ (.int .i64 y) = wv at *
          clear hww
        all_goals
          have hlo2 : Tgt lo := by unfold Tgt; omega
          replace K := K.but hBr hneK
          replace M := M.but hBr hneM
          replace G := G.but hBr hrbb
          replace hB := hB.trans hBr
          replace hsz := Nat.le_trans hsz hBr.size
          clear hBr
          have O2 := M.alloc (.cells #[.int .i64 lo, .int .i64 y] 40)
          have K2 := K.alloc (.cells #[.int .i64 lo, .int .i64 y] 40)
          have G2 := G.alloc (.cells #[.int .i64 lo, .int .i64 y] 40)
          have B2 := hB.alloc (.cells #[.int .i64 lo, .int .i64 y] 40)
          have R2 := hR3.alloc (.cells #[.int .i64 lo, .int .i64 y] 40)
          have cw := cells_two wv wv.heap.size rfl (.int .i64 lo) (.int .i64 y) 40
          obtain ⟨o0, o1, o2⟩ := id M
          have lo1 := Nat.ne_of_lt o2
          have lo2' := Nat.ne_of_gt o2
          go_wp2_with (at_builtin; refine wpList_append_own _ (by rfl) _ _ 23 (by rfl) base 40 i0 _ 2 16 Tryd.underlying23 hi hz0 hz1 hz2 rfl (by decide) _ _ _ (by rfl) G2 ⟨wv.heap.size, 0, none⟩ 1 1 [.int .i64 lo, .int .i64 y] (by rfl) rfl cw (by simp [Value.oneCell']) (by rw [hps]; unfold maxLen; omega) (by rw [hps]; omega) (by simp; omega) ?_; intro v' w5 hown hgrow _; rw [hps] at hown; obtain ⟨g', cap', rfl⟩ := ownsRow_succ hown; have O5 := O2.kept hgrow (G2.far hMb); have o5 := O5.1; have f5 := O5.2.1; have l5 := O5.2.2)
          have G5 : Grows w5 base (.slice (some ⟨g', 0, none⟩) (j + 1) cap') (ps ++ [(lo, y)]) := Grows.snoc hps hown
          have K5 := K2.kept hgrow (G2.far hKb)
          have B5 := B2.grown hgrow (fun c e => by have := (World.ownsRow.lt G2 c e).1; omega)
          have R5 := R2.kept hgrow (fun c e => by have := (World.ownsRow.lt G2 c e).1; omega)
          have S5 := hgrow.size
          go_roundw
          case rel => exact ⟨j + 1, _, _, _, ps ++ [(lo, y)], by omega, by go_num, by show _ = _; rw [List.length_append, hps]; rfl, hT.snoc hlo2 hy, G5.set (by omega) _, O5.set _, K5.other _ (by simp <;> omega) _, (R5.mono (by omega)).far _ _ (by omega) _, B5.far (p := ⟨w.heap.size + 1, 0, none⟩) (by simp <;> omega) _, by simp [World.setCell]; simp at S5; omega⟩
          case measure => simp [intOf]; omega
    · obtain rfl : n = j := by omega
      obtain ⟨av', cv', e1, OBx⟩ := G.ob hT.fits
      injection e1 with e1 e2 e3
      subst e1 e2 e3
      have m10 := M.1
      obtain ⟨k0, k1, k2⟩ := id K
      go_wp2
      refine bodyPost_ret (v := .agg #[.slice av ps.length cv]) ?_ rfl ⟨⟨av, cv, ps, rfl, by have := hl.out; omega, hT, (OBx.set1 (by omega) _).mono' (by omega)⟩, (hR.mono (by omega)).far _ _ (by omega) _, hB.far (p := ⟨w.heap.size, 0, none⟩) (by simp <;> omega) _⟩
      simp [results, Tryd.results32, go_sem, k0]

set_option maxHeartbeats 2000000 in
theorem box31 (w : World) (c : Option Addr) (len cap : Nat) (h : IsCode w c len cap) :
    Calls Tryd.prog 12 #[.slice c len cap] w fun e w' => (∃ wd av cv ps, (-64 ≤ wd ∧ wd ≤ 64) ∧ e = .returned (.tuple #[.int .i64 wd, .agg #[.slice av (ps : List (Int × Int)).length cv]]) ∧ ps.length ≤ 7 ∧ Tight ps ∧ OB w' w.heap.size av cv ps) ∧ Below w.heap.size w w' := by
  have hB0 : Below w.heap.size w (w.alloc (.cells #[.slice none 0 0] 25)) := (by repeat (first | exact Below.refl _ _ | refine Below.drew ?_ | refine old_alloc ?_ _ | refine old_trans ?_ (by assumption)))
  have K : Cel1 (w.alloc (.cells #[.slice none 0 0] 25)) w.heap.size (.slice none 0 0) := Cel1.made w _ rfl _ _
  replace h := h.old hB0
  have hK0 := K.2.2
  go_enter Tryd.func12, Tryd.ntmps12
  go_wp2_with fail
  generalize w.alloc (.cells #[.slice none 0 0] 25) = wy at *
  refine (open_kB wy c len cap h).mono ?_
  rintro e wo ⟨rfl, o, rfl, hR⟩
  have hneK : w.heap.size ≠ wy.heap.size := by omega
  replace K := K.alloc o
  replace hB0 := old_alloc hB0 o
  go_wp2_with fail
  refine (width_k wy.heap.size 99998 _ hR).mono ?_
  rintro e w2 ⟨⟨wd, hwd, rfl⟩, hR2, hB2⟩
  replace K := K.but hB2 hneK
  replace hB0 := old_but hB0 hB2 (by omega)
  clear hR hB2
  go_wp2_with fail
  refine (pick_k wy.heap.size 99997 _ _ hR2 (by decide)).mono ?_
  rintro e w3 ⟨⟨u, ⟨ua, ub⟩, rfl⟩, hR3, hB3⟩
  replace K := K.but hB3 hneK
  replace hB0 := old_but hB0 hB3 (by omega)
  have hs3 := K.2.2
  clear hR2 hB3
  by_cases u0 : u = 0
  case' pos =>
    subst u0
    go_wp2_with fail
    refine (few_k wy.heap.size 1000 wd _ (hR3.mono (by omega))).mono ?_
  case' neg =>
    have uz : (u == 0) = false := by simp; omega
    go_wp2_with fail
    refine (box_k wy.heap.size 1000 wd _ (hR3.mono (by omega))).mono ?_
  all_goals
    rintro e w4 ⟨⟨av, cv, ps, rfl, hl, hT, OBx⟩, hR4, hB4⟩
    replace K := K.but hB4 hneK
    have hBF : Below w.heap.size w w4 := old_but hB0 hB4 (by omega)
    obtain ⟨k0, k1, k2⟩ := id K
    go_wp2
    refine bodyPost_ret (v := .tuple #[.int .i64 wd, .agg #[.slice av ps.length cv]]) ?_ rfl ⟨⟨wd, av, cv, ps, hwd, rfl, hl, hT, (OBx.set1 (b := w.heap.size) (by omega) _).mono' (by omega)⟩, hBF.setCell (p := ⟨w.heap.size, 0, none⟩) (by simp <;> omega) _⟩
    simp [results, Tryd.results12, go_sem, k0]
end Go.Proofs.YtmllcpcbaojipaaDoor

/- The draw of a box for its patterns: some pairs, in memory of their own; all old memory as it was. No condition. -/
namespace Go.Proofs.YtmllcpcbaojipaaDoor
open Go.RowKit
set_option linter.unusedVariables false
set_option maxRecDepth 100000

set_option maxHeartbeats 4000000 in
theorem drawBoxBits (w : World) (c : Option Addr) (len cap : Nat) (h : IsCode w c len cap) :
    Calls Tryd.prog 4 #[.slice c len cap] w fun e w' => (∃ wd av cv ps, e = .returned (.tuple #[.int .i64 wd, .agg #[.slice av (ps : List (Int × Int)).length cv]]) ∧ (-64 ≤ wd ∧ wd ≤ 64) ∧ ps.length ≤ 7 ∧ OB w' w.heap.size av cv ps) ∧ Below w.heap.size w w' := by
  have hBw : Below w.heap.size w (w.alloc (.cells #[.slice none 0 0] 25)) := (by repeat (first | exact Below.refl _ _ | refine Below.drew ?_ | refine old_alloc ?_ _ | refine old_trans ?_ (by assumption)))
  have T1 : Cel1 (w.alloc (.cells #[.slice none 0 0] 25)) w.heap.size (.slice none 0 0) := Cel1.made w _ rfl _ _
  have hs0 : w.heap.size < (w.alloc (.cells #[.slice none 0 0] 25)).heap.size := by simp
  replace h := h.old hBw
  go_enter Tryd.func4, Tryd.ntmps4
  go_wp2_with fail
  generalize w.alloc (.cells #[.slice none 0 0] 25) = wz at *
  refine (box31 wz c len cap h).mono ?_
  rintro e w1 ⟨⟨wd, av, cv, ps, hwd, rfl, hpl, -, Q⟩, hb1⟩
  replace T1 := T1.later hb1
  replace hBw := old_trans hBw hb1
  have hz := hb1.size
  have X : Cel1 (w1.alloc (.cells #[.slice av ps.length cv] 25)) w1.heap.size (.slice av ps.length cv) := Cel1.made _ _ rfl _ _
  replace T1 := T1.alloc (.cells #[.slice av ps.length cv] 25)
  replace Q := Q.alloc (.cells #[.slice av ps.length cv] 25)
  replace hBw : Below w.heap.size w (w1.alloc (.cells #[.slice av ps.length cv] 25)) := old_alloc hBw _
  have e1 : w.heap.size ≠ w1.heap.size := by omega
  have e5 : w1.heap.size ≠ w.heap.size := by omega
  go_upto_region 2 with fail
  generalize w1.alloc (.cells #[.slice av ps.length cv] 25) = wn at *
  have t10 := T1.1
  have t11 := T1.2.1
  have t12 := T1.2.2
  have x0 := X.1
  go_region
  all_goals
    go_wp2
    refine bodyPost_ret (v := .tuple #[.int .i64 wd, .agg #[.slice av ps.length cv]]) ?_ rfl ⟨⟨wd, av, cv, ps, rfl, hwd, hpl, ?_⟩, ?_⟩
    · simp [results, Tryd.results4, go_sem, t10]
    · exact (Q.set1 (b := w.heap.size) (by omega) _).mono' (by omega)
    · repeat (first | with_reducible exact hBw | with_reducible refine Below.drew ?_ | (refine Below.setCell ?_ ?_ _; rotate_left; (first | exact Nat.le_refl _ | exact Nat.le_add_right _ _ | omega)))
end Go.Proofs.YtmllcpcbaojipaaDoor
