/- The draw of a box: some pairs, in memory of their own; the reader some places further, all other old memory as it was. No condition. -/
import Derived.Test.YtpnfkigeagbhpaaPK18
import Derived.Deep.AppendLies
import Derived.Deep.RegionLaw
namespace Go.Proofs.Ytpnfkigeagbhpaa
open Go.RowKit
set_option linter.unusedVariables false
set_option maxRecDepth 100000

set_option maxRecDepth 100000 in
set_option maxHeartbeats 8000000 in
theorem box_k (rb k : Nat) (wd : Int) (w : World) (h : Rk w rb (k + 1500)) :
    Calls Try.prog 39 #[.pointer (some ⟨rb, 0, none⟩), .int .i64 wd] w fun e w' => (∃ av cv ps, e = .returned (.agg #[.slice av (ps : List (Int × Int)).length cv]) ∧ ps.length ≤ 7 ∧ Tight ps ∧ OB w' w.heap.size av cv ps) ∧ Rk w' rb k ∧ But rb w w' := by
  have hlt := h.lt
  have hneK : w.heap.size ≠ rb := by omega
  have hneM : w.heap.size + 1 ≠ rb := by omega
  have K : Cel1 ((w.alloc (.cells #[.slice none 0 0] 25)).alloc (.cells #[.slice none 0 0] 25)) w.heap.size (.slice none 0 0) := (Cel1.made w _ rfl _ _).alloc _
  have M : Cel1 ((w.alloc (.cells #[.slice none 0 0] 25)).alloc (.cells #[.slice none 0 0] 25)) (w.heap.size + 1) (.slice none 0 0) := Cel1.made _ _ (by simp) _ _
  have hB : But rb w ((w.alloc (.cells #[.slice none 0 0] 25)).alloc (.cells #[.slice none 0 0] 25)) := ((But.refl _ _).alloc _).alloc _
  have hR := (h.alloc (.cells #[.slice none 0 0] 25)).alloc (.cells #[.slice none 0 0] 25)
  obtain ⟨base, hbase⟩ : ∃ base, base = w.heap.size + 2 := ⟨_, rfl⟩
  have hMb : w.heap.size + 1 < base := by omega
  have hKb : w.heap.size < base := by omega
  have hrbb : rb < base := by omega
  have hsz : base ≤ ((w.alloc (.cells #[.slice none 0 0] 25)).alloc (.cells #[.slice none 0 0] 25)).heap.size := by simp; omega
  obtain ⟨i0, hi, hz0, hz1, hz2⟩ := info_parts infoPair
  clear h
  go_enter Try.func39, Try.ntmps39
  go_wp2_with fail
  generalize (w.alloc (.cells #[.slice none 0 0] 25)).alloc (.cells #[.slice none 0 0] 25) = wz at *
  refine (pick_k rb (k + 1499) _ _ hR (by decide)).mono ?_
  rintro e wa ⟨⟨u, ⟨ua, ub⟩, rfl⟩, hRa, hBa⟩
  replace K := K.but hBa hneK
  replace M := M.but hBa hneM
  replace hB := hB.trans hBa
  replace hsz := Nat.le_trans hsz hBa.size
  clear hR hBa
  go_wp2_with fail
  refine (pick_k rb (k + 1498) _ _ hRa (by decide)).mono ?_
  rintro e wb ⟨⟨v, ⟨va, vb⟩, rfl⟩, hRb, hBb⟩
  replace K := K.but hBb hneK
  replace M := M.but hBb hneM
  replace hB := hB.trans hBb
  replace hsz := Nat.le_trans hsz hBb.size
  clear hRa hBb
  have key : ∀ (n : Int) (wc : World), 0 ≤ n → n ≤ 7 → Rk wc rb (k + 1490) → But rb w wc → Cel1 wc w.heap.size (.slice none 0 0) → Cel1 wc (w.heap.size + 1) (.slice none 0 0) → base ≤ wc.heap.size → True := fun _ _ _ _ _ _ _ _ _ => trivial
  clear key
  by_cases hv : v = 0
  case' pos =>
    subst hv
    go_wp2_with fail
    refine (pick_k rb (k + 1497) _ _ hRb (by decide)).mono ?_
    rintro e wc ⟨⟨n, ⟨na, nb⟩, rfl⟩, hR, hBc⟩
    replace K := K.but hBc hneK
    replace M := M.but hBc hneM
    replace hB := hB.trans hBc
    replace hsz := Nat.le_trans hsz hBc.size
    replace hR := hR.mono (show k + 1490 ≤ k + 1497 by omega)
    clear hRb hBc
    go_wp2_with fail
  case' neg =>
    have hv2 : (v == 0) = false := by simp; exact hv
    have na : 0 ≤ 1 + u := by omega
    have nb : 1 + u < 8 := by omega
    have hR := hRb.mono (show k + 1490 ≤ k + 1498 by omega)
    clear hRb
    generalize wb = wc at *
    clear hv
    go_wp2_with fail
    generalize 1 + u = n at *
  all_goals
    go_loopw [7] (fun i wr => ∃ (j : Nat) (av : Option Addr) (nv cv : Nat) (ps : List (Int × Int)), (j : Int) ≤ n ∧ i = .int .i64 j ∧ Hid (ps.length = j) ∧ Tight ps ∧ Grows wr base (.slice av nv cv) ps ∧ Cel1 wr (w.heap.size + 1) (.slice av nv cv) ∧ Cel1 wr w.heap.size (.slice none 0 0) ∧ Rk wr rb (k + (7 - j) * 200 + 10) ∧ But rb w wr ∧ base ≤ wr.heap.size) (fun i _ => n.toNat - (intOf i).toNat)
    case atStart => exact ⟨0, none, 0, 0, [], na, rfl, rfl, Tight.nil, Grows.nil _ _, M, K, hR.mono (by omega), hB, hsz⟩
    case round =>
      clear K M hR hB hsz
      obtain ⟨j, av, nv, cv, ps, hj, rfl, hl, hT, G, M, K, hR, hB, hsz⟩ := hrel
      by_cases hjn : (j : Int) < n
      · obtain ⟨q, hq⟩ : ∃ q, q = k + (7 - (j + 1)) * 200 + 10 := ⟨_, rfl⟩
        replace hR := hR.mono (show q + 200 ≤ k + (7 - j) * 200 + 10 by omega)
        go_wp2_with fail
        refine (pick_k rb (q + 199) _ _ hR (by decide)).mono ?_
        rintro e w1 ⟨⟨v1, ⟨v1a, v1b⟩, rfl⟩, hR1, hB1⟩
        replace K := K.but hB1 hneK
        replace M := M.but hB1 hneM
        replace G := G.but hB1 hrbb
        replace hB := hB.trans hB1
        replace hsz := Nat.le_trans hsz hB1.size
        clear hR hB1
        have m10 := M.1
        have hps := hl.out
        have hj7 : j < 7 := by omega
        by_cases hv1 : v1 = 0
        case' pos =>
          subst hv1
          go_wp2_with fail
          go_region_law (first | (refine step_append_lies _ (by rfl) _ _ 23 (by rfl) base 42 i0 _ 2 16 Try.underlying23 hi hz0 hz1 hz2 rfl (by decide) _ ps.length (flat ps) (by rfl) (G2.alloc (.cells #[.int .i64 x, .int .i64 y] 42)) ⟨w2.heap.size, 0, none⟩ 1 1 [.int .i64 x, .int .i64 y] (by rfl) rfl (cells_two _ _ rfl _ _ _) (by simp [Value.oneCell']) (by decide) (by unfold maxLen; omega) (by omega) (by simp at ms2 ⊢; omega) _ rfl ?_; intro g' cap' w5 hown hgrow hat5 hlt5; have O5 := (M2.alloc (.cells #[.int .i64 x, .int .i64 y] 42)).kept hgrow (G2.far hMb); have o5 := O5.1; have f5 := O5.2.1; have l5 := O5.2.2) | (go_simp; go_at_call 71; refine (pairT_k rb (q + 170) wd _ (hR1.drewd)).mono ?_; rintro e w2 ⟨⟨x, y, hxy, rfl⟩, hR2, hB2⟩; have M2 := M.drew.but hB2 hneM; have K2 := K.drew.but hB2 hneK; have G2 := G.drewd.but hB2 hrbb; have m20 := M2.1; have ms2 := hB2.size; have ml2 := Nat.ne_of_lt M2.2.2; have mg2 := Nat.ne_of_gt M2.2.2; have m21 := (M2.alloc (.cells #[.int .i64 x, .int .i64 y] 42)).1))
        case' neg =>
          have hv3 : (v1 == 0) = false := by simp; exact hv1
          go_wp2_with fail
          go_region_law (first | (refine step_append_lies _ (by rfl) _ _ 23 (by rfl) base 42 i0 _ 2 16 Try.underlying23 hi hz0 hz1 hz2 rfl (by decide) _ ps.length (flat ps) (by rfl) (G2.alloc (.cells #[.int .i64 x, .int .i64 y] 42)) ⟨w2.heap.size, 0, none⟩ 1 1 [.int .i64 x, .int .i64 y] (by rfl) rfl (cells_two _ _ rfl _ _ _) (by simp [Value.oneCell']) (by decide) (by unfold maxLen; omega) (by omega) (by simp at ms2 ⊢; omega) _ rfl ?_; intro g' cap' w5 hown hgrow hat5 hlt5; have O5 := (M2.alloc (.cells #[.int .i64 x, .int .i64 y] 42)).kept hgrow (G2.far hMb); have o5 := O5.1; have f5 := O5.2.1; have l5 := O5.2.2) | (go_simp; go_at_call 72; refine (goodT_k rb (q + 25) wd _ (hR1.drewd)).mono ?_; rintro e w2 ⟨⟨x, y, hxy, rfl⟩, hR2, hB2⟩; have M2 := M.drew.but hB2 hneM; have K2 := K.drew.but hB2 hneK; have G2 := G.drewd.but hB2 hrbb; have m20 := M2.1; have ms2 := hB2.size; have ml2 := Nat.ne_of_lt M2.2.2; have mg2 := Nat.ne_of_gt M2.2.2; have m21 := (M2.alloc (.cells #[.int .i64 x, .int .i64 y] 42)).1))
        all_goals
          have K5 := (K2.alloc (.cells #[.int .i64 x, .int .i64 y] 42)).kept hgrow (G2.far hKb)
          have G5 : Grows w5 base (.slice (some ⟨g', 0, none⟩) (j + 1) cap') (ps ++ [(x, y)]) := Grows.snoc hps (by rw [hps] at hown; exact hown)
          have B5 := ((hB.drew.trans hB2).alloc (.cells #[.int .i64 x, .int .i64 y] 42)).grown hgrow (fun c e => by have := (World.ownsRow.lt G2 c e).1; omega)
          have R5 := (hR2.alloc (.cells #[.int .i64 x, .int .i64 y] 42)).kept hgrow (fun c e => by have := (World.ownsRow.lt G2 c e).1; omega)
          have S5 := hgrow.size
          go_wp2
          go_roundw
          case rel => exact ⟨j + 1, _, _, _, ps ++ [(x, y)], by omega, by go_num, by show _ = _; rw [List.length_append, hps]; rfl, hT.snoc hxy.1 hxy.2, G5.set (by omega) _, O5.set _, K5.other _ (by simp <;> omega) _, (R5.mono (by omega)).far _ _ (by omega) _, B5.far (p := ⟨w.heap.size + 1, 0, none⟩) (by simp <;> omega) _, by simp [World.setCell]; simp at S5; simp at ms2; omega⟩
          case measure => simp [intOf]; omega
      · obtain rfl : n = j := by omega
        obtain ⟨av', cv', e1, OBx⟩ := G.ob hT.fits
        injection e1 with e1 e2 e3
        subst e1 e2 e3
        have m10 := M.1
        obtain ⟨k0, k1, k2⟩ := id K
        go_wp2
        refine bodyPost_ret (v := .agg #[.slice av ps.length cv]) ?_ rfl ⟨⟨av, cv, ps, rfl, by have := hl.out; omega, hT, (OBx.set1 (by omega) _).mono' (by omega)⟩, (hR.mono (by omega)).far _ _ (by omega) _, hB.far (p := ⟨w.heap.size, 0, none⟩) (by simp <;> omega) _⟩
        simp [results, Try.results39, go_sem, k0]
end Go.Proofs.Ytpnfkigeagbhpaa

/- The draws of boxes for the promise on both widths: a wide one, a narrow one. Nothing that was there is written. No condition. -/
namespace Go.Proofs.Ytpnfkigeagbhpaa
open Go.RowKit
set_option linter.unusedVariables false
set_option maxRecDepth 100000

set_option maxHeartbeats 4000000 in
theorem widePair_k (rb k : Nat) (w : World) (h : Rk w rb (k + 31)) :
    Calls Try.prog 27 #[.pointer (some ⟨rb, 0, none⟩)] w fun e w' => (∃ a b : Int, ((-9223372036854775808 ≤ a ∧ a ≤ 9223372036854775807) ∧ -9223372036854775808 ≤ b ∧ b ≤ 9223372036854775807) ∧ e = .returned (.agg #[.int .i64 a, .int .i64 b])) ∧ Rk w' rb k ∧ But rb w w' := by
  have hlt := h.lt
  have hne : w.heap.size ≠ rb := by omega
  have T : Cel2 (w.alloc (.cells #[.int .i64 0, .int .i64 0] 42)) w.heap.size (.int .i64 0) (.int .i64 0) := Cel2.made w _ rfl _ _ _
  have hB : But rb w (w.alloc (.cells #[.int .i64 0, .int .i64 0] 42)) := (But.refl _ _).alloc _
  go_enter Try.func27, Try.ntmps27
  go_wp2_with fail
  refine (wide_k rb (k + 16) _ (h.alloc _)).mono ?_
  rintro e w1 ⟨⟨a, ha, rfl⟩, hR1, hB1⟩
  replace T := T.but hB1 hne
  replace hB := hB.trans hB1
  clear h hB1
  go_wp2_with fail
  refine (wide_k rb (k + 1) _ hR1).mono ?_
  rintro e w2 ⟨⟨b, hb, rfl⟩, hR2, hB2⟩
  replace T := T.but hB2 hne
  replace hB := hB.trans hB2
  clear hR1 hB2
  have hT2 := T.2.2.2.2
  have hlt2 := hR2.lt
  have hq1 : w.heap.size ≠ w2.heap.size := by omega
  have hq2 : w2.heap.size ≠ w.heap.size := by omega
  have hP2 : w2.heap.size ≠ rb := by omega
  obtain ⟨t0, t1, t2, t3, t4⟩ := id T
  by_cases hab : b < a
  · go_wp2_with fail
    refine (pick_k rb k _ _ (hR2.alloc _) (by decide)).mono ?_
    rintro e w4 ⟨⟨u, ⟨ua, ub⟩, rfl⟩, hR4, hB4⟩
    have P : Cel2 w4 w2.heap.size (.int .i64 a) (.int .i64 b) := (Cel2.made w2 _ rfl _ _ _).but hB4 hP2
    replace T := (T.alloc _).but hB4 hne
    replace hB := (hB.alloc _).trans hB4
    clear t0 t1 t2 t3 t4 hR2 hB4
    obtain ⟨t0, t1, t2, t3, t4⟩ := id T
    obtain ⟨p0, p1, p2, p3, p4⟩ := id P
    by_cases hu : 0 < u
    · go_wp2
      have X := ((T.others w2.heap.size hq1 (.int .i64 b) (.int .i64 a)).stored (.int .i64 b) (.int .i64 a))
      refine bodyPost_ret (v := .agg #[.int .i64 b, .int .i64 a]) ?_ rfl ⟨⟨b, a, ⟨hb, ha⟩, rfl⟩, (((hR4.far _ _ (by omega) _).far _ _ (by omega) _).far _ _ (by omega) _).far _ _ (by omega) _, (((hB.far (p := ⟨w2.heap.size, 0, none⟩) (by simp; omega) _).far (p := ⟨w2.heap.size, 1, none⟩) (by simp; omega) _).far (p := ⟨w.heap.size, 0, none⟩) (by simp) _).far (p := ⟨w.heap.size, 1, none⟩) (by simp) _⟩
      simp [results, Try.results27, go_sem, X.1, X.2.1]
    · go_wp2
      refine bodyPost_ret (v := .agg #[.int .i64 a, .int .i64 b]) ?_ rfl ⟨⟨a, b, ⟨ha, hb⟩, rfl⟩, (hR4.far _ _ (by omega) _).far _ _ (by omega) _, (hB.far (p := ⟨w.heap.size, 0, none⟩) (by simp) _).far (p := ⟨w.heap.size, 1, none⟩) (by simp) _⟩
      have X := T.stored (.int .i64 a) (.int .i64 b)
      simp [results, Try.results27, go_sem, X.1, X.2.1]
  · go_wp2
    have X := T.stored (.int .i64 a) (.int .i64 b)
    refine bodyPost_ret (v := .agg #[.int .i64 a, .int .i64 b]) ?_ rfl ⟨⟨a, b, ⟨ha, hb⟩, rfl⟩, (((hR2.far _ _ (by omega) _).far _ _ (by omega) _).mono (by omega)).alloc _, ((hB.far (p := ⟨w.heap.size, 0, none⟩) (by simp) _).far (p := ⟨w.heap.size, 1, none⟩) (by simp) _).alloc _⟩
    have Y := X.alloc (.cells #[.int .i64 a, .int .i64 b] 42)
    simp [results, Try.results27, go_sem, Y.1, Y.2.1]

set_option maxRecDepth 100000 in
set_option maxHeartbeats 4000000 in
theorem drawBoxLess (w : World) (c : Option Addr) (len cap : Nat) (h : IsCode w c len cap) :
    Calls Try.prog 6 #[.slice c len cap] w fun e w' => (∃ av cv ps, e = .returned (.agg #[.slice av (ps : List (Int × Int)).length cv]) ∧ ps.length ≤ 3 ∧ OB w' w.heap.size av cv ps) ∧ Below w.heap.size w w' := by
  have hB0 : Below w.heap.size w (w.alloc (.cells #[.slice none 0 0] 25)) := (by repeat (first | exact Below.refl _ _ | refine Below.drew ?_ | refine old_alloc ?_ _ | refine old_trans ?_ (by assumption)))
  have K : Cel1 (w.alloc (.cells #[.slice none 0 0] 25)) w.heap.size (.slice none 0 0) := Cel1.made w _ rfl _ _
  replace h := h.old hB0
  have hK0 := K.2.2
  go_enter Try.func6, Try.ntmps6
  go_wp2_with fail
  generalize w.alloc (.cells #[.slice none 0 0] 25) = wy at *
  refine (open_kB wy c len cap h).mono ?_
  rintro e wo ⟨rfl, o, rfl, hR⟩
  clear h
  obtain ⟨rb, hrb⟩ : ∃ rb, rb = wy.heap.size := ⟨_, rfl⟩
  rw [← hrb] at hR
  have hneK : w.heap.size ≠ rb := by omega
  have hneM : rb + 1 ≠ rb := by omega
  have hso : (wy.alloc o).heap.size = rb + 1 := by simp; omega
  have hB : But rb (wy.alloc o) (wy.alloc o) := But.refl _ _
  replace hB0 := old_alloc hB0 o
  replace K := K.alloc o
  generalize wy.alloc o = wv at *
  go_wp2_with fail
  rw [← hrb]
  have hwr : w.heap.size < rb := by omega
  clear hrb
  have M : Cel1 (wv.alloc (.cells #[.slice none 0 0] 25)) (rb + 1) (.slice none 0 0) := Cel1.made _ _ hso.symm _ _
  replace K := K.alloc (.cells #[.slice none 0 0] 25)
  replace hR := hR.alloc (.cells #[.slice none 0 0] 25)
  replace hB := hB.alloc (.cells #[.slice none 0 0] 25)
  obtain ⟨base, hbase⟩ : ∃ base, base = rb + 2 := ⟨_, rfl⟩
  have hMb : rb + 1 < base := by omega
  have hKb : w.heap.size < base := by omega
  have hrbb : rb < base := by omega
  have hsz : base ≤ (wv.alloc (.cells #[.slice none 0 0] 25)).heap.size := by simp; omega
  generalize wv.alloc (.cells #[.slice none 0 0] 25) = wu at *
  have hvs : rb + 1 ≤ wv.heap.size := by omega
  have hvs2 : wv.heap.size ≤ rb + 1 := by omega
  clear hso
  obtain ⟨i0, hi, hz0, hz1, hz2⟩ := info_parts infoPair
  refine (pick_k rb 99999 _ _ hR (by decide)).mono ?_
  rintro e wa ⟨⟨u, ⟨ua, ub⟩, rfl⟩, hRa, hBa⟩
  replace K := K.but hBa hneK
  replace M := M.but hBa hneM
  replace hB := hB.trans hBa
  replace hsz := Nat.le_trans hsz hBa.size
  clear hR hBa
  go_wp2_with fail
  have na : 0 ≤ 1 + u := by omega
  have nb : 1 + u ≤ 3 := by omega
  generalize 1 + u = n at *
  go_loopw [6] (fun i wr => ∃ (j : Nat) (av : Option Addr) (nv cv : Nat) (ps : List (Int × Int)), (j : Int) ≤ n ∧ i = .int .i64 j ∧ Hid (ps.length = j) ∧ Fits ps ∧ Grows wr base (.slice av nv cv) ps ∧ Cel1 wr (rb + 1) (.slice av nv cv) ∧ Cel1 wr w.heap.size (.slice none 0 0) ∧ Rk wr rb ((3 - j) * 100) ∧ But rb wv wr ∧ base ≤ wr.heap.size) (fun i _ => n.toNat - (intOf i).toNat)
  case atStart => exact ⟨0, none, 0, 0, [], na, rfl, rfl, fits_nil, Grows.nil _ _, M, K, hRa.mono (by omega), hB, hsz⟩
  case round =>
    clear K M hRa hB hsz
    obtain ⟨j, av, nv, cv, ps, hj, rfl, hl, hT, G, M, K, hR1, hB, hsz⟩ := hrel
    by_cases hjn : (j : Int) < n
    · obtain ⟨q, hq⟩ : ∃ q, q = (3 - (j + 1)) * 100 := ⟨_, rfl⟩
      replace hR1 := hR1.mono (show q + 100 ≤ (3 - j) * 100 by omega)
      have m10 := M.1
      have hps := hl.out
      have hj7 : j < 3 := by omega
      go_wp2_with fail
      go_region_law (first | (refine step_append_lies _ (by rfl) _ _ 23 (by rfl) base 42 i0 _ 2 16 Try.underlying23 hi hz0 hz1 hz2 rfl (by decide) _ ps.length (flat ps) (by rfl) (G2.alloc (.cells #[.int .i64 x, .int .i64 y] 42)) ⟨w2.heap.size, 0, none⟩ 1 1 [.int .i64 x, .int .i64 y] (by rfl) rfl (cells_two _ _ rfl _ _ _) (by simp [Value.oneCell']) (by decide) (by unfold maxLen; omega) (by omega) (by simp at ms2 ⊢; omega) _ rfl ?_; intro g' cap' w5 hown hgrow hat5 hlt5; have O5 := (M2.alloc (.cells #[.int .i64 x, .int .i64 y] 42)).kept hgrow (G2.far hMb); have o5 := O5.1; have f5 := O5.2.1; have l5 := O5.2.2) | (go_simp; go_at_call 27; refine (widePair_k rb (q + 60) _ (hR1.drewd.mono (by omega))).mono ?_; rintro e w2 ⟨⟨x, y, hxy, rfl⟩, hR2, hB2⟩; have M2 := M.drew.but hB2 hneM; have K2 := K.drew.but hB2 hneK; have G2 := G.drewd.but hB2 hrbb; have m20 := M2.1; have ms2 := hB2.size; have ml2 := Nat.ne_of_lt M2.2.2; have mg2 := Nat.ne_of_gt M2.2.2; have m21 := (M2.alloc (.cells #[.int .i64 x, .int .i64 y] 42)).1))
      all_goals
        have K5 := (K2.alloc (.cells #[.int .i64 x, .int .i64 y] 42)).kept hgrow (G2.far hKb)
        have G5 : Grows w5 base (.slice (some ⟨g', 0, none⟩) (j + 1) cap') (ps ++ [(x, y)]) := Grows.snoc hps (by rw [hps] at hown; exact hown)
        have B5 := ((hB.drew.trans hB2).alloc (.cells #[.int .i64 x, .int .i64 y] 42)).grown hgrow (fun c e => by have := (World.ownsRow.lt G2 c e).1; omega)
        have R5 := (hR2.alloc (.cells #[.int .i64 x, .int .i64 y] 42)).kept hgrow (fun c e => by have := (World.ownsRow.lt G2 c e).1; omega)
        have S5 := hgrow.size
        go_wp2
        go_roundw
        case rel => exact ⟨j + 1, _, _, _, ps ++ [(x, y)], by omega, by go_num, by show _ = _; rw [List.length_append, hps]; rfl, hT.snoc hxy, G5.set (by omega) _, O5.set _, K5.other _ (by simp <;> omega) _, (R5.mono (by omega)).far _ _ (by omega) _, B5.far (p := ⟨rb + 1, 0, none⟩) (by simp <;> omega) _, by simp [World.setCell]; simp at S5; simp at ms2; omega⟩
        case measure => simp [intOf]; omega
    · obtain rfl : n = j := by omega
      obtain ⟨av', cv', e1, OBx⟩ := G.ob hT
      injection e1 with e1 e2 e3
      subst e1 e2 e3
      have m10 := M.1
      obtain ⟨k0, k1, k2⟩ := id K
      have hBF : Below w.heap.size w wr := old_but hB0 hB (by omega)
      go_wp2
      refine bodyPost_ret (v := .agg #[.slice av ps.length cv]) ?_ rfl ⟨⟨av, cv, ps, rfl, by have := hl.out; omega, (OBx.set1 (by omega) _).mono' (by omega)⟩, hBF.setCell (p := ⟨w.heap.size, 0, none⟩) (by simp <;> omega) _⟩
      simp [results, Try.results6, go_sem, k0]

set_option maxHeartbeats 1000000 in
theorem drawBoxMore (w : World) (c : Option Addr) (len cap : Nat) (h : IsCode w c len cap) :
    Calls Try.prog 12 #[.slice c len cap] w fun e w' => (∃ av cv ps, e = .returned (.agg #[.slice av (ps : List (Int × Int)).length cv]) ∧ ps.length ≤ 7 ∧ OB w' w.heap.size av cv ps) ∧ Below w.heap.size w w' := by
  have hB0 : Below w.heap.size w (w.alloc (.cells #[.slice none 0 0] 25)) := (by repeat (first | exact Below.refl _ _ | refine Below.drew ?_ | refine old_alloc ?_ _ | refine old_trans ?_ (by assumption)))
  have K : Cel1 (w.alloc (.cells #[.slice none 0 0] 25)) w.heap.size (.slice none 0 0) := Cel1.made w _ rfl _ _
  replace h := h.old hB0
  have hK0 := K.2.2
  go_enter Try.func12, Try.ntmps12
  go_wp2_with fail
  generalize w.alloc (.cells #[.slice none 0 0] 25) = wy at *
  refine (open_kB wy c len cap h).mono ?_
  rintro e wo ⟨rfl, o, rfl, hR⟩
  have hneK : w.heap.size ≠ wy.heap.size := by omega
  go_wp2_with fail
  refine (box_k wy.heap.size 1000 32 _ (hR.mono (by omega))).mono ?_
  rintro e w2 ⟨⟨av, cv, ps, rfl, hl, hT, OBx⟩, hR2, hB2⟩
  replace K := (K.alloc o).but hB2 hneK
  have hBF : Below w.heap.size w w2 := old_but (old_alloc hB0 o) hB2 (by omega)
  obtain ⟨k0, k1, k2⟩ := id K
  go_wp2
  refine bodyPost_ret (v := .agg #[.slice av ps.length cv]) ?_ rfl ⟨⟨av, cv, ps, rfl, hl, (OBx.set1 (by simp; omega) _).mono' (by simp; omega)⟩, hBF.setCell (p := ⟨w.heap.size, 0, none⟩) (by simp <;> omega) _⟩
  simp [results, Try.results12, go_sem, k0]
end Go.Proofs.Ytpnfkigeagbhpaa
