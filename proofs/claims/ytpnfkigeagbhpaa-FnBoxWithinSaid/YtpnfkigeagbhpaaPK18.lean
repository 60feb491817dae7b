/- The draw of a box: some pairs, in memory of their own; the reader some places further, all other old memory as it was. No condition. -/
import Derived.Test.YtpnfkigeagbhpaaPK17
import Derived.Deep.AppendLies
import Derived.Deep.RegionLaw
import Derived.Deep.RegionWith
namespace Go.Proofs.Ytpnfkigeagbhpaa
open Go.RowKit
set_option linter.unusedVariables false
set_option maxRecDepth 100000

set_option maxRecDepth 100000 in
set_option maxHeartbeats 8000000 in
theorem box_k (rb k : Nat) (wd : Int) (w : World) (h : Rk w rb (k + 1500)) :
    Calls Try.prog 39 #[.pointer (some ⟨rb, 0, none⟩), .int .i64 wd] w fun e w' => (∃ av cv ps, e = .returned (.agg #[.slice av (ps : List (Int × Int)).length cv]) ∧ ps.length ≤ 7 ∧ Tight ps ∧ OB w' w.heap.size av cv ps) ∧ Rk w' rb k ∧ But rb w w' := by
  have hlt := h.lt
  have hneK : w.heap.size ≠ rb := by omega
  have hneM : w.heap.size + 1 ≠ rb := by omega
  have K : Cel1 ((w.alloc (.cells #[.slice none 0 0] 25)).alloc (.cells #[.slice none 0 0] 25)) w.heap.size (.slice none 0 0) := (Cel1.made w _ rfl _ _).alloc _
  have M : Cel1 ((w.alloc (.cells #[.slice none 0 0] 25)).alloc (.cells #[.slice none 0 0] 25)) (w.heap.size + 1) (.slice none 0 0) := Cel1.made _ _ (by simp) _ _
  have hB : But rb w ((w.alloc (.cells #[.slice none 0 0] 25)).alloc (.cells #[.slice none 0 0] 25)) := ((But.refl _ _).alloc _).alloc _
  have hR := (h.alloc (.cells #[.slice none 0 0] 25)).alloc (.cells #[.slice none 0 0] 25)
  obtain ⟨base, hbase⟩ : ∃ base, base = w.heap.size + 2 := ⟨_, rfl⟩
  have hMb : w.heap.size + 1 < base := by omega
  have hKb : w.heap.size < base := by omega
  have hrbb : rb < base := by omega
  have hsz : base ≤ ((w.alloc (.cells #[.slice none 0 0] 25)).alloc (.cells #[.slice none 0 0] 25)).heap.size := by simp; omega
  obtain ⟨i0, hi, hz0, hz1, hz2⟩ := info_parts infoPair
  clear h
  go_enter Try.func39, Try.ntmps39
  go_wp2_with fail
  generalize (w.alloc (.cells #[.slice none 0 0] 25)).alloc (.cells #[.slice none 0 0] 25) = wz at *
  refine (pick_k rb (k + 1499) _ _ hR (by decide)).mono ?_
  rintro e wa ⟨⟨u, ⟨ua, ub⟩, rfl⟩, hRa, hBa⟩
  replace K := K.but hBa hneK
  replace M := M.but hBa hneM
  replace hB := hB.trans hBa
  replace hsz := Nat.le_trans hsz hBa.size
  clear hR hBa
  go_wp2_with fail
  refine (pick_k rb (k + 1498) _ _ hRa (by decide)).mono ?_
  rintro e wb ⟨⟨v, ⟨va, vb⟩, rfl⟩, hRb, hBb⟩
  replace K := K.but hBb hneK
  replace M := M.but hBb hneM
  replace hB := hB.trans hBb
  replace hsz := Nat.le_trans hsz hBb.size
  clear hRa hBb
  have key : ∀ (n : Int) (wc : World), 0 ≤ n → n ≤ 7 → Rk wc rb (k + 1490) → But rb w wc → Cel1 wc w.heap.size (.slice none 0 0) → Cel1 wc (w.heap.size + 1) (.slice none 0 0) → base ≤ wc.heap.size → True := fun _ _ _ _ _ _ _ _ _ => trivial
  clear key
  by_cases hv : v = 0
  case' pos =>
    subst hv
    go_wp2_with fail
    refine (pick_k rb (k + 1497) _ _ hRb (by decide)).mono ?_
    rintro e wc ⟨⟨n, ⟨na, nb⟩, rfl⟩, hR, hBc⟩
    replace K := K.but hBc hneK
    replace M := M.but hBc hneM
    replace hB := hB.trans hBc
    replace hsz := Nat.le_trans hsz hBc.size
    replace hR := hR.mono (show k + 1490 ≤ k + 1497 by omega)
    clear hRb hBc
    go_wp2_with fail
  case' neg =>
    have hv2 : (v == 0) = false := by simp; exact hv
    have na : 0 ≤ 1 + u := by omega
    have nb : 1 + u < 8 := by omega
    have hR := hRb.mono (show k + 1490 ≤ k + 1498 by omega)
    clear hRb
    generalize wb = wc at *
    clear hv
    go_wp2_with fail
    generalize 1 + u = n at *
  all_goals
    go_loopw [7] (fun i wr => ∃ (j : Nat) (av : Option Addr) (nv cv : Nat) (ps : List (Int × Int)), (j : Int) ≤ n ∧ i = .int .i64 j ∧ Hid (ps.length = j) ∧ Tight ps ∧ Grows wr base (.slice av nv cv) ps ∧ Cel1 wr (w.heap.size + 1) (.slice av nv cv) ∧ Cel1 wr w.heap.size (.slice none 0 0) ∧ Rk wr rb (k + (7 - j) * 200 + 10) ∧ But rb w wr ∧ base ≤ wr.heap.size) (fun i _ => n.toNat - (intOf i).toNat)
    case atStart => exact ⟨0, none, 0, 0, [], na, rfl, rfl, Tight.nil, Grows.nil _ _, M, K, hR.mono (by omega), hB, hsz⟩
    case round =>
      clear K M hR hB hsz
      obtain ⟨j, av, nv, cv, ps, hj, rfl, hl, hT, G, M, K, hR, hB, hsz⟩ := hrel
      by_cases hjn : (j : Int) < n
      · obtain ⟨q, hq⟩ : ∃ q, q = k + (7 - (j + 1)) * 200 + 10 := ⟨_, rfl⟩
        replace hR := hR.mono (show q + 200 ≤ k + (7 - j) * 200 + 10 by omega)
        go_wp2_with fail
        refine (pick_k rb (q + 199) _ _ hR (by decide)).mono ?_
        rintro e w1 ⟨⟨v1, ⟨v1a, v1b⟩, rfl⟩, hR1, hB1⟩
        replace K := K.but hB1 hneK
        replace M := M.but hB1 hneM
        replace G := G.but hB1 hrbb
        replace hB := hB.trans hB1
        replace hsz := Nat.le_trans hsz hB1.size
        clear hR hB1
        have m10 := M.1
        have hps := hl.out
        have hj7 : j < 7 := by omega
        by_cases hv1 : v1 = 0
        case' pos =>
          subst hv1
          go_wp2_with fail
          go_region_law (first | (refine step_append_lies _ (by rfl) _ _ 23 (by rfl) base 42 i0 _ 2 16 Try.underlying23 hi hz0 hz1 hz2 rfl (by decide) _ ps.length (flat ps) (by rfl) (G2.alloc (.cells #[.int .i64 x, .int .i64 y] 42)) ⟨w2.heap.size, 0, none⟩ 1 1 [.int .i64 x, .int .i64 y] (by rfl) rfl (cells_two _ _ rfl _ _ _) (by simp [Value.oneCell']) (by decide) (by unfold maxLen; omega) (by omega) (by simp at ms2 ⊢; omega) _ rfl ?_; intro g' cap' w5 hown hgrow hat5 hlt5; have O5 := (M2.alloc (.cells #[.int .i64 x, .int .i64 y] 42)).kept hgrow (G2.far hMb); have o5 := O5.1; have f5 := O5.2.1; have l5 := O5.2.2) | (go_simp; go_at_call 71; refine (pairT_k rb (q + 170) wd _ (hR1.drewd)).mono ?_; rintro e w2 ⟨⟨x, y, hxy, rfl⟩, hR2, hB2⟩; have M2 := M.drew.but hB2 hneM; have K2 := K.drew.but hB2 hneK; have G2 := G.drewd.but hB2 hrbb; have m20 := M2.1; have ms2 := hB2.size; have ml2 := Nat.ne_of_lt M2.2.2; have mg2 := Nat.ne_of_gt M2.2.2; have m21 := (M2.alloc (.cells #[.int .i64 x, .int .i64 y] 42)).1))
        case' neg =>
          have hv3 : (v1 == 0) = false := by simp; exact hv1
          go_wp2_with fail
          go_region_law (first | (refine step_append_lies _ (by rfl) _ _ 23 (by rfl) base 42 i0 _ 2 16 Try.underlying23 hi hz0 hz1 hz2 rfl (by decide) _ ps.length (flat ps) (by rfl) (G2.alloc (.cells #[.int .i64 x, .int .i64 y] 42)) ⟨w2.heap.size, 0, none⟩ 1 1 [.int .i64 x, .int .i64 y] (by rfl) rfl (cells_two _ _ rfl _ _ _) (by simp [Value.oneCell']) (by decide) (by unfold maxLen; omega) (by omega) (by simp at ms2 ⊢; omega) _ rfl ?_; intro g' cap' w5 hown hgrow hat5 hlt5; have O5 := (M2.alloc (.cells #[.int .i64 x, .int .i64 y] 42)).kept hgrow (G2.far hMb); have o5 := O5.1; have f5 := O5.2.1; have l5 := O5.2.2) | (go_simp; go_at_call 72; refine (goodT_k rb (q + 25) wd _ (hR1.drewd)).mono ?_; rintro e w2 ⟨⟨x, y, hxy, rfl⟩, hR2, hB2⟩; have M2 := M.drew.but hB2 hneM; have K2 := K.drew.but hB2 hneK; have G2 := G.drewd.but hB2 hrbb; have m20 := M2.1; have ms2 := hB2.size; have ml2 := Nat.ne_of_lt M2.2.2; have mg2 := Nat.ne_of_gt M2.2.2; have m21 := (M2.alloc (.cells #[.int .i64 x, .int .i64 y] 42)).1))
        all_goals
          have K5 := (K2.alloc (.cells #[.int .i64 x, .int .i64 y] 42)).kept hgrow (G2.far hKb)
          have G5 : Grows w5 base (.slice (some ⟨g', 0, none⟩) (j + 1) cap') (ps ++ [(x, y)]) := Grows.snoc hps (by rw [hps] at hown; exact hown)
          have B5 := ((hB.drew.trans hB2).alloc (.cells #[.int .i64 x, .int .i64 y] 42)).grown hgrow (fun c e => by have := (World.ownsRow.lt G2 c e).1; omega)
          have R5 := (hR2.alloc (.cells #[.int .i64 x, .int .i64 y] 42)).kept hgrow (fun c e => by have := (World.ownsRow.lt G2 c e).1; omega)
          have S5 := hgrow.size
          go_wp2
          go_roundw
          case rel => exact ⟨j + 1, _, _, _, ps ++ [(x, y)], by omega, by go_num, by show _ = _; rw [List.length_append, hps]; rfl, hT.snoc hxy.1 hxy.2, G5.set (by omega) _, O5.set _, K5.other _ (by simp <;> omega) _, (R5.mono (by omega)).far _ _ (by omega) _, B5.far (p := ⟨w.heap.size + 1, 0, none⟩) (by simp <;> omega) _, by simp [World.setCell]; simp at S5; simp at ms2; omega⟩
          case measure => simp [intOf]; omega
      · obtain rfl : n = j := by omega
        obtain ⟨av', cv', e1, OBx⟩ := G.ob hT.fits
        injection e1 with e1 e2 e3
        subst e1 e2 e3
        have m10 := M.1
        obtain ⟨k0, k1, k2⟩ := id K
        go_wp2
        refine bodyPost_ret (v := .agg #[.slice av ps.length cv]) ?_ rfl ⟨⟨av, cv, ps, rfl, by have := hl.out; omega, hT, (OBx.set1 (by omega) _).mono' (by omega)⟩, (hR.mono (by omega)).far _ _ (by omega) _, hB.far (p := ⟨w.heap.size, 0, none⟩) (by simp <;> omega) _⟩
        simp [results, Try.results39, go_sem, k0]
end Go.Proofs.Ytpnfkigeagbhpaa

/- The draw of a box within another one, mostly: some pairs, in memory of their own; the reader some places further, all other old memory as it was. No condition. -/
namespace Go.Proofs.Ytpnfkigeagbhpaa
open Go.RowKit
set_option linter.unusedVariables false
set_option maxRecDepth 100000

set_option maxRecDepth 100000 in
set_option maxHeartbeats 8000000 in
theorem inner_k (rb k : Nat) (wd : Int) (a : Option Addr) (len cap : Nat) (ps : List (Int × Int)) (w : World) (h : Rk w rb (k + 600)) (hR0 : InRow w a len cap ps) (hT : Tight ps) (hlen : len ≤ 7) (hsep : 0 < len → ∀ q, a = some q → q.block ≠ rb) :
    Calls Try.prog 74 #[.pointer (some ⟨rb, 0, none⟩), .int .i64 wd, .agg #[.slice a len cap]] w fun e w' => (∃ av cv qs, e = .returned (.agg #[.slice av (qs : List (Int × Int)).length cv]) ∧ qs.length ≤ 8 ∧ OB w' w.heap.size av cv qs) ∧ Rk w' rb k ∧ But rb w w' := by
  have hlt := h.lt
  have hneC : w.heap.size ≠ rb := by omega
  have hneK : w.heap.size + 1 ≠ rb := by omega
  have hneM : w.heap.size + 1 + 1 ≠ rb := by omega
  have hfar := hR0.far
  have hpl := hR0.1
  have C : Cel1 (((w.alloc (.cells #[.slice a len cap] 25)).alloc (.cells #[.slice none 0 0] 25)).alloc (.cells #[.slice none 0 0] 25)) w.heap.size (.slice a len cap) := ((Cel1.made w _ rfl _ _).alloc _).alloc _
  have K : Cel1 (((w.alloc (.cells #[.slice a len cap] 25)).alloc (.cells #[.slice none 0 0] 25)).alloc (.cells #[.slice none 0 0] 25)) (w.heap.size + 1) (.slice none 0 0) := (Cel1.made _ _ (by simp) _ _).alloc _
  have M : Cel1 (((w.alloc (.cells #[.slice a len cap] 25)).alloc (.cells #[.slice none 0 0] 25)).alloc (.cells #[.slice none 0 0] 25)) (w.heap.size + 1 + 1) (.slice none 0 0) := Cel1.made _ _ (by simp) _ _
  have hB : But rb w (((w.alloc (.cells #[.slice a len cap] 25)).alloc (.cells #[.slice none 0 0] 25)).alloc (.cells #[.slice none 0 0] 25)) := (((But.refl _ _).alloc _).alloc _).alloc _
  have hR := ((h.alloc (.cells #[.slice a len cap] 25)).alloc (.cells #[.slice none 0 0] 25)).alloc (.cells #[.slice none 0 0] 25)
  have R := ((hR0.alloc (.cells #[.slice a len cap] 25)).alloc (.cells #[.slice none 0 0] 25)).alloc (.cells #[.slice none 0 0] 25)
  obtain ⟨base, hbase⟩ : ∃ base, base = w.heap.size + 3 := ⟨_, rfl⟩
  have hMb : w.heap.size + 1 + 1 < base := by omega
  have hKb : w.heap.size + 1 < base := by omega
  have hCb : w.heap.size < base := by omega
  have hrbb : rb < base := by omega
  have hsz : base ≤ ((((w.alloc (.cells #[.slice a len cap] 25)).alloc (.cells #[.slice none 0 0] 25)).alloc (.cells #[.slice none 0 0] 25))).heap.size := by simp; omega
  obtain ⟨i0, hi, hz0, hz1, hz2⟩ := info_parts infoPair
  clear h hbase hR0
  go_enter Try.func74, Try.ntmps74
  go_wp2_with fail
  generalize (((w.alloc (.cells #[.slice a len cap] 25)).alloc (.cells #[.slice none 0 0] 25)).alloc (.cells #[.slice none 0 0] 25)) = wz at *
  go_loopw [8] (fun i wr => ∃ (j : Nat) (av : Option Addr) (nv cv : Nat) (qs : List (Int × Int)), j ≤ len ∧ i = .int .i64 j ∧ Hid (qs.length = j) ∧ Fits qs ∧ Grows wr base (.slice av nv cv) qs ∧ Cel1 wr (w.heap.size + 1 + 1) (.slice av nv cv) ∧ Cel1 wr (w.heap.size + 1) (.slice none 0 0) ∧ Cel1 wr w.heap.size (.slice a len cap) ∧ InRow wr a len cap ps ∧ Rk wr rb (k + (7 - j) * 60 + 100) ∧ But rb w wr ∧ base ≤ wr.heap.size) (fun i _ => len - (intOf i).toNat)
  case atStart => exact ⟨0, none, 0, 0, [], by omega, rfl, rfl, fits_nil, Grows.nil _ _, M, K, C, R, hR.mono (by omega), hB, hsz⟩
  case round =>
    clear K M C R hR hB hsz
    obtain ⟨j, av, nv, cv, qs, hj, rfl, hl, hF, G, M, K, C, R, hR1, hB, hsz⟩ := hrel
    have hqs := hl.out
    have m10 := M.1
    have c10 := C.1
    by_cases hjn : j < len
    · obtain ⟨b, off, p, q, rfl, hbl, hx, hpq, c0, c1⟩ := R.at hjn
      have hbw : b < w.heap.size := hfar (by omega) _ rfl
      have hbr : b ≠ rb := hsep (by omega) _ rfl
      have hpq2 := hT.at (by omega) hx
      unfold Tgt at hpq2
      obtain ⟨z, hz⟩ : ∃ z, z = k + (7 - (j + 1)) * 60 + 100 := ⟨_, rfl⟩
      replace hR1 := hR1.mono (show z + 60 ≤ k + (7 - j) * 60 + 100 by omega)
      have hjI : (j : Int) < (len : Int) := by omega
      have hjI0 : (0 : Int) ≤ (j : Int) := by omega
      go_wp2_with fail
      go_region_law (first | (refine step_append_lies _ (by rfl) _ _ 23 (by rfl) base 42 i0 _ 2 16 Try.underlying23 hi hz0 hz1 hz2 rfl (by decide) _ qs.length (flat qs) (by rfl) (G2.alloc (.cells #[.int .i64 x, .int .i64 y] 42)) ⟨w2.heap.size, 0, none⟩ 1 1 [.int .i64 x, .int .i64 y] (by rfl) rfl (cells_two _ _ rfl _ _ _) (by simp [Value.oneCell']) (by decide) (by unfold maxLen; omega) (by omega) (by simp at ms2 ⊢; omega) _ rfl ?_; intro g' cap' w5 hown hgrow hat5 hlt5; have O5 := (M2.alloc (.cells #[.int .i64 x, .int .i64 y] 42)).kept hgrow (G2.far hMb); have o5 := O5.1; have f5 := O5.2.1; have l5 := O5.2.2) | (go_simp; go_at_call 57; refine (within_k rb z wd p q _ hR1.drewd hpq2).mono ?_; rintro e w2 ⟨⟨x, y, hxy, rfl⟩, hR2, hB2⟩; have M2 := M.drew.but hB2 hneM; have K2 := K.drew.but hB2 hneK; have G2 := G.drewd.but hB2 hrbb; have C2 := C.drew.but hB2 hneC; have RR2 := R.drew.but hB2 (fun _ q e => by cases e; exact hbr); have m20 := M2.1; have ms2 := hB2.size; have ml2 := Nat.ne_of_lt M2.2.2; have mg2 := Nat.ne_of_gt M2.2.2; have m21 := (M2.alloc (.cells #[.int .i64 x, .int .i64 y] 42)).1))
      all_goals
        have K5 := (K2.alloc (.cells #[.int .i64 x, .int .i64 y] 42)).kept hgrow (G2.far hKb)
        have C5 := (C2.alloc (.cells #[.int .i64 x, .int .i64 y] 42)).kept hgrow (G2.far hCb)
        have RR5 := (RR2.alloc (.cells #[.int .i64 x, .int .i64 y] 42)).kept hgrow (fun q e => by cases e; exact G2.far (by show b < _; omega))
        have G5 : Grows w5 base (.slice (some ⟨g', 0, none⟩) (j + 1) cap') (qs ++ [(x, y)]) := Grows.snoc hqs (by rw [hqs] at hown; exact hown)
        have B5 := ((hB.drew.trans hB2).alloc (.cells #[.int .i64 x, .int .i64 y] 42)).grown hgrow (fun c e => by have := (World.ownsRow.lt G2 c e).1; omega)
        have R5 := (hR2.alloc (.cells #[.int .i64 x, .int .i64 y] 42)).kept hgrow (fun c e => by have := (World.ownsRow.lt G2 c e).1; omega)
        have S5 := hgrow.size
        go_wp2
        go_roundw
        case rel => exact ⟨j + 1, _, _, _, qs ++ [(x, y)], by omega, by go_num, by show _ = _; rw [List.length_append, hqs]; rfl, hF.snoc hxy, G5.set (by omega) _, O5.set _, K5.other _ (by simp <;> omega) _, C5.other _ (by simp <;> omega) _, RR5.set _ _ (fun q e => by cases e; simp <;> omega), (R5.mono (by omega)).far _ _ (by omega) _, B5.far (p := ⟨w.heap.size + 1 + 1, 0, none⟩) (by simp <;> omega) _, by simp [World.setCell]; simp at S5; simp at ms2; omega⟩
        case measure => simp [intOf]; omega
    · obtain rfl : len = j := by omega
      clear R
      have hni : ¬ ((len : Int) < (len : Int)) := by omega
      go_wp2_with fail
      refine (pick_k rb (k + 40) _ _ (hR1.mono (by omega)) (by decide)).mono ?_
      rintro e w1 ⟨⟨v1, ⟨v1a, v1b⟩, rfl⟩, hR3, hB3⟩
      replace K := K.but hB3 hneK
      replace M := M.but hB3 hneM
      replace G := G.but hB3 hrbb
      replace hB := hB.trans hB3
      replace hsz := Nat.le_trans hsz hB3.size
      replace hR1 := hR3
      clear hR3 hB3 C c10 m10
      have m10 := M.1
      obtain ⟨k0, k1, k2⟩ := id K
      by_cases hv1 : v1 = 0
      · subst hv1
        clear k0 k1 k2
        go_wp2_with fail
        go_region_law (first | (refine step_append_lies _ (by rfl) _ _ 23 (by rfl) base 42 i0 _ 2 16 Try.underlying23 hi hz0 hz1 hz2 rfl (by decide) _ qs.length (flat qs) (by rfl) (G2.alloc (.cells #[.int .i64 x, .int .i64 y] 42)) ⟨w2.heap.size, 0, none⟩ 1 1 [.int .i64 x, .int .i64 y] (by rfl) rfl (cells_two _ _ rfl _ _ _) (by simp [Value.oneCell']) (by decide) (by unfold maxLen; omega) (by omega) (by simp at ms2 ⊢; omega) _ rfl ?_; intro g' cap' w5 hown hgrow hat5 hlt5; have O5 := (M2.alloc (.cells #[.int .i64 x, .int .i64 y] 42)).kept hgrow (G2.far hMb); have o5 := O5.1; have f5 := O5.2.1; have l5 := O5.2.2) | (go_simp; go_at_call 71; refine (pairT_k rb (k + 11) wd _ hR1.drewd).mono ?_; rintro e w2 ⟨⟨x, y, hxy, rfl⟩, hR2, hB2⟩; have M2 := M.drew.but hB2 hneM; have K2 := K.drew.but hB2 hneK; have G2 := G.drewd.but hB2 hrbb; have m20 := M2.1; have ms2 := hB2.size; have ml2 := Nat.ne_of_lt M2.2.2; have mg2 := Nat.ne_of_gt M2.2.2; have m21 := (M2.alloc (.cells #[.int .i64 x, .int .i64 y] 42)).1))
        all_goals
          have K5 := (K2.alloc (.cells #[.int .i64 x, .int .i64 y] 42)).kept hgrow (G2.far hKb)
          have G5 : Grows w5 base (.slice (some ⟨g', 0, none⟩) (len + 1) cap') (qs ++ [(x, y)]) := Grows.snoc hqs (by rw [hqs] at hown; exact hown)
          have B5 := ((hB.drew.trans hB2).alloc (.cells #[.int .i64 x, .int .i64 y] 42)).grown hgrow (fun c e => by have := (World.ownsRow.lt G2 c e).1; omega)
          have R5 := (hR2.alloc (.cells #[.int .i64 x, .int .i64 y] 42)).kept hgrow (fun c e => by have := (World.ownsRow.lt G2 c e).1; omega)
          obtain ⟨k0, k1, k2⟩ := id K5
          obtain ⟨av', cv', e1, OBx⟩ := G5.ob (hF.snoc (by omega))
          have hl2 : (qs ++ [(x, y)]).length = len + 1 := by rw [List.length_append, hqs]; rfl
          rw [hl2] at e1
          injection e1 with e1 e2 e3
          subst e1 e3
          have hq1 : w.heap.size + 1 ≠ w.heap.size + 1 + 1 := by omega
          go_wp2
          have K6 := (K5.other ⟨w.heap.size + 1 + 1, 0, none⟩ (by simp <;> omega) (.slice (some ⟨g', 0, none⟩) (qs.length + 1) cap'))
          refine bodyPost_ret (v := .agg #[.slice (some ⟨g', 0, none⟩) (qs ++ [(x, y)]).length cap']) ?_ rfl ⟨⟨_, _, qs ++ [(x, y)], rfl, by rw [hl2]; omega, ((OBx.set1 (b := w.heap.size + 1 + 1) (by omega) _).set1 (b := w.heap.size + 1) (by omega) _).mono' (by omega)⟩, ((R5.mono (by omega)).far _ _ (by omega) _).far _ _ (by omega) _, (B5.far (p := ⟨w.heap.size + 1 + 1, 0, none⟩) (by simp <;> omega) _).far (p := ⟨w.heap.size + 1, 0, none⟩) (by simp <;> omega) _⟩
          rw [hl2, ← hqs]
          have K7 := K6.set (.slice (some ⟨g', 0, none⟩) (qs.length + 1) cap')
          simp [results, Try.results74, go_sem, K7.1]
      · have hv3 : (v1 == 0) = false := by simp; exact hv1
        obtain ⟨av', cv', e1, OBx⟩ := G.ob hF
        injection e1 with e1 e2 e3
        subst e1 e2 e3
        go_wp2
        refine bodyPost_ret (v := .agg #[.slice av qs.length cv]) ?_ rfl ⟨⟨av, cv, qs, rfl, by omega, (OBx.set1 (b := w.heap.size + 1) (by omega) _).mono' (by omega)⟩, (hR1.mono (by omega)).far _ _ (by omega) _, hB.far (p := ⟨w.heap.size + 1, 0, none⟩) (by simp <;> omega) _⟩
        simp [results, Try.results74, go_sem, k0]
        omega
end Go.Proofs.Ytpnfkigeagbhpaa

/- The draws of a width and two boxes. Nothing that was there is written. No condition. -/
namespace Go.Proofs.Ytpnfkigeagbhpaa
open Go.RowKit
set_option linter.unusedVariables false
set_option maxRecDepth 100000

set_option maxRecDepth 100000 in
set_option maxHeartbeats 8000000 in
theorem boxes_k (w : World) (cd : Option Addr) (len cap : Nat) (h : IsCode w cd len cap) :
    Calls Try.prog 40 #[.slice cd len cap] w fun e w' => (∃ wd au cu us av cv ps, (-64 ≤ wd ∧ wd ≤ 64) ∧ e = .returned (.tuple #[.int .i64 wd, .agg #[.slice au (us : List (Int × Int)).length cu], .agg #[.slice av (ps : List (Int × Int)).length cv]]) ∧ us.length ≤ 8 ∧ ps.length ≤ 8 ∧ OB w' w.heap.size au cu us ∧ OB w' w.heap.size av cv ps) ∧ Below w.heap.size w w' := by
  have hBw : Below w.heap.size w ((w.alloc (.cells #[.slice none 0 0] 25)).alloc (.cells #[.slice none 0 0] 25)) := (by repeat (first | exact Below.refl _ _ | refine Below.drew ?_ | refine old_alloc ?_ _ | refine old_trans ?_ (by assumption)))
  have T1 : Cel1 ((w.alloc (.cells #[.slice none 0 0] 25)).alloc (.cells #[.slice none 0 0] 25)) w.heap.size (.slice none 0 0) := (Cel1.made w _ rfl _ _).alloc _
  have T2 : Cel1 ((w.alloc (.cells #[.slice none 0 0] 25)).alloc (.cells #[.slice none 0 0] 25)) (w.heap.size + 1) (.slice none 0 0) := Cel1.made _ _ (by simp) _ _
  have hs0 : w.heap.size + 1 < (((w.alloc (.cells #[.slice none 0 0] 25)).alloc (.cells #[.slice none 0 0] 25))).heap.size := by simp
  replace h := h.old hBw
  go_enter Try.func40, Try.ntmps40
  go_wp2_with fail
  generalize ((w.alloc (.cells #[.slice none 0 0] 25)).alloc (.cells #[.slice none 0 0] 25)) = wz at *
  refine (open_kB wz cd len cap h).mono ?_
  rintro e w1 ⟨rfl, o, rfl, hR⟩
  replace T1 := T1.alloc o
  replace T2 := T2.alloc o
  replace hBw := old_alloc hBw o
  clear h
  go_wp2_with fail
  refine (width_k wz.heap.size 99998 _ hR).mono ?_
  rintro e w2 ⟨⟨wd, hwd, rfl⟩, hR2, hB2⟩
  replace T1 := T1.but hB2 (by omega)
  replace T2 := T2.but hB2 (by omega)
  replace hBw := old_but hBw hB2 (by omega)
  have hz2 := hR2.lt
  clear hR hB2
  go_wp2_with fail
  refine (box_k wz.heap.size 90000 wd _ (hR2.mono (by omega))).mono ?_
  rintro e w3 ⟨⟨av, cv, ps, rfl, hpl, hTp, Q⟩, hR3, hB3⟩
  replace T1 := T1.but hB3 (by omega)
  replace T2 := T2.but hB3 (by omega)
  replace hBw := old_but hBw hB3 (by omega)
  have hz3 := hR3.lt
  clear hR2 hB3
  have P : Cel1 (w3.alloc (.cells #[.slice av ps.length cv] 25)) w3.heap.size (.slice av ps.length cv) := Cel1.made _ _ rfl _ _
  replace T1 := T1.alloc (.cells #[.slice av ps.length cv] 25)
  replace T2 := T2.alloc (.cells #[.slice av ps.length cv] 25)
  replace Q := Q.alloc (.cells #[.slice av ps.length cv] 25)
  replace hBw := old_alloc hBw (.cells #[.slice av ps.length cv] 25)
  replace hR3 := hR3.alloc (.cells #[.slice av ps.length cv] 25)
  have hqb : wz.heap.size < w2.heap.size := hz2
  go_wp2_with fail
  refine (pick_k wz.heap.size 80000 _ _ (hR3.mono (by omega)) (by decide)).mono ?_
  rintro e w4 ⟨⟨u, ⟨ua, ub⟩, rfl⟩, hR4, hB4⟩
  replace T1 := T1.but hB4 (by omega)
  replace T2 := T2.but hB4 (by omega)
  replace P := P.but hB4 (by omega)
  replace Q := Q.but hB4 hqb
  replace hBw := old_but hBw hB4 (by omega)
  clear hR3 hB4
  have t10 := T1.1
  have t11 := T1.2.1
  have t12 := T1.2.2
  have t20 := T2.1
  have t21 := T2.2.1
  have t22 := T2.2.2
  have p0 := P.1
  have hnT1 : w.heap.size ≠ wz.heap.size := by omega
  have hnT2 : w.heap.size + 1 ≠ wz.heap.size := by omega
  have hnP : w3.heap.size ≠ wz.heap.size := by omega
  have hnw : w.heap.size ≤ wz.heap.size := by omega
  have hs4 : w.heap.size + 1 < w4.heap.size := t22
  by_cases u0 : 0 < u
  · have hR5 : Rk w4 wz.heap.size (0 + 600) := hR4.mono (by omega)
    have hI := Q.inRow
    have hsp : 0 < ps.length → ∀ q, av = some q → q.block ≠ wz.heap.size := fun _ q e => by have := Q.ge q e; omega
    go_wp2_with fail
    go_region_with (go_at_call 74; refine (inner_k _ 0 _ _ _ _ ps _ (by first | exact hR5 | exact Rk.drewd hR5) (by first | exact hI | exact hI.drew) hTp hpl hsp).mono ?_; rintro e wx ⟨⟨au, cu, us, rfl, hul, U⟩, hRx, hBx⟩; have U : OB wx w4.heap.size au cu us := U; have T1 := (by with_reducible first | exact T1.but hBx hnT1 | exact T1.drew.but hBx hnT1 : Cel1 wx _ _); have T2 := (by with_reducible first | exact T2.but hBx hnT2 | exact T2.drew.but hBx hnT2 : Cel1 wx _ _); have P := (by with_reducible first | exact P.but hBx hnP | exact P.drew.but hBx hnP : Cel1 wx _ _); have Q := (by with_reducible first | exact Q.but hBx hqb | exact Q.drew.but hBx hqb : OB wx _ _ _ _); have t10 := T1.1; have t11 := T1.2.1; have t12 := T1.2.2; have t20 := T2.1; have t21 := T2.2.1; have t22 := T2.2.2; have p0 := P.1; have hBw := (by with_reducible first | exact old_but hBw hBx hnw | exact old_but (Below.drew hBw) hBx hnw : Below w.heap.size w wx))
    all_goals
      go_wp2
      refine bodyPost_ret (v := .tuple #[.int .i64 wd, .agg #[.slice au us.length cu], .agg #[.slice av ps.length cv]]) ?_ rfl ⟨⟨wd, au, cu, us, av, cv, ps, hwd, rfl, by omega, by omega, ?_, ?_⟩, ?_⟩
      · have X1 := (T1.set (.slice au us.length cu)).other ⟨w.heap.size + 1, 0, none⟩ (by simp <;> omega) (.slice av ps.length cv)
        have X2 := (T2.other ⟨w.heap.size, 0, none⟩ (by simp <;> omega) (.slice au us.length cu)).set (.slice av ps.length cv)
        simp [results, Try.results40, go_sem, X1.1, X2.1]
      · exact ((U.set1 (b := w.heap.size) (by omega) _).set1 (b := w.heap.size + 1) (by omega) _).mono' (by omega)
      · exact ((Q.set1 (b := w.heap.size) (by omega) _).set1 (b := w.heap.size + 1) (by omega) _).mono' (by omega)
      · repeat (first | with_reducible exact hBw | with_reducible refine Below.drew ?_ | (refine Below.setCell ?_ ?_ _; rotate_left; (first | exact Nat.le_refl _ | exact Nat.le_add_right _ _ | omega)))
  · have uz : decide (0 < u) = false := by simp; omega
    have hR6 : Rk w4 wz.heap.size (0 + 1500) := hR4.mono (by omega)
    go_wp2_with fail
    go_region_with (go_at_call 39; refine (box_k _ 0 _ _ (by first | exact hR6 | exact Rk.drewd hR6)).mono ?_; rintro e wx ⟨⟨au, cu, us, rfl, hul, hTu, U⟩, hRx, hBx⟩; have U : OB wx w4.heap.size au cu us := U; have T1 := (by with_reducible first | exact T1.but hBx hnT1 | exact T1.drew.but hBx hnT1 : Cel1 wx _ _); have T2 := (by with_reducible first | exact T2.but hBx hnT2 | exact T2.drew.but hBx hnT2 : Cel1 wx _ _); have P := (by with_reducible first | exact P.but hBx hnP | exact P.drew.but hBx hnP : Cel1 wx _ _); have Q := (by with_reducible first | exact Q.but hBx hqb | exact Q.drew.but hBx hqb : OB wx _ _ _ _); have t10 := T1.1; have t11 := T1.2.1; have t12 := T1.2.2; have t20 := T2.1; have t21 := T2.2.1; have t22 := T2.2.2; have p0 := P.1; have hBw := (by with_reducible first | exact old_but hBw hBx hnw | exact old_but (Below.drew hBw) hBx hnw : Below w.heap.size w wx))
    all_goals
      go_wp2
      refine bodyPost_ret (v := .tuple #[.int .i64 wd, .agg #[.slice au us.length cu], .agg #[.slice av ps.length cv]]) ?_ rfl ⟨⟨wd, au, cu, us, av, cv, ps, hwd, rfl, by omega, by omega, ?_, ?_⟩, ?_⟩
      · have X1 := (T1.set (.slice au us.length cu)).other ⟨w.heap.size + 1, 0, none⟩ (by simp <;> omega) (.slice av ps.length cv)
        have X2 := (T2.other ⟨w.heap.size, 0, none⟩ (by simp <;> omega) (.slice au us.length cu)).set (.slice av ps.length cv)
        simp [results, Try.results40, go_sem, X1.1, X2.1]
      · exact ((U.set1 (b := w.heap.size) (by omega) _).set1 (b := w.heap.size + 1) (by omega) _).mono' (by omega)
      · exact ((Q.set1 (b := w.heap.size) (by omega) _).set1 (b := w.heap.size + 1) (by omega) _).mono' (by omega)
      · repeat (first | with_reducible exact hBw | with_reducible refine Below.drew ?_ | (refine Below.setCell ?_ ?_ _; rotate_left; (first | exact Nat.le_refl _ | exact Nat.le_add_right _ _ | omega)))

set_option maxHeartbeats 8000000 in
theorem drawBoxMeet (w : World) (cd : Option Addr) (len cap : Nat) (h : IsCode w cd len cap) :
    Calls Try.prog 13 #[.slice cd len cap] w fun e w' => (∃ wd au cu us av cv ps, (-64 ≤ wd ∧ wd ≤ 64) ∧ e = .returned (.tuple #[.int .i64 wd, .agg #[.slice au (us : List (Int × Int)).length cu], .agg #[.slice av (ps : List (Int × Int)).length cv]]) ∧ us.length ≤ 8 ∧ ps.length ≤ 8 ∧ OB w' w.heap.size au cu us ∧ OB w' w.heap.size av cv ps) ∧ Below w.heap.size w w' := by
  have hBw : Below w.heap.size w ((w.alloc (.cells #[.slice none 0 0] 25)).alloc (.cells #[.slice none 0 0] 25)) := (by repeat (first | exact Below.refl _ _ | refine Below.drew ?_ | refine old_alloc ?_ _ | refine old_trans ?_ (by assumption)))
  have T1 : Cel1 ((w.alloc (.cells #[.slice none 0 0] 25)).alloc (.cells #[.slice none 0 0] 25)) w.heap.size (.slice none 0 0) := (Cel1.made w _ rfl _ _).alloc _
  have T2 : Cel1 ((w.alloc (.cells #[.slice none 0 0] 25)).alloc (.cells #[.slice none 0 0] 25)) (w.heap.size + 1) (.slice none 0 0) := Cel1.made _ _ (by simp) _ _
  have hs0 : w.heap.size + 1 < (((w.alloc (.cells #[.slice none 0 0] 25)).alloc (.cells #[.slice none 0 0] 25))).heap.size := by simp
  replace h := h.old hBw
  go_enter Try.func13, Try.ntmps13
  go_wp2_with fail
  generalize ((w.alloc (.cells #[.slice none 0 0] 25)).alloc (.cells #[.slice none 0 0] 25)) = wz at *
  refine (boxes_k wz cd len cap h).mono ?_
  rintro e w1 ⟨⟨wd, au, cu, us, av, cv, ps, hwd, rfl, hul, hpl, U, Q⟩, hb1⟩
  replace T1 := T1.later hb1
  replace T2 := T2.later hb1
  replace hBw := old_trans hBw hb1
  have hz := hb1.size
  have X : Cel1 ((w1.alloc (.cells #[.slice au us.length cu] 25)).alloc (.cells #[.slice av ps.length cv] 25)) w1.heap.size (.slice au us.length cu) := (Cel1.made _ _ rfl _ _).alloc _
  have Y : Cel1 ((w1.alloc (.cells #[.slice au us.length cu] 25)).alloc (.cells #[.slice av ps.length cv] 25)) (w1.heap.size + 1) (.slice av ps.length cv) := Cel1.made _ _ (by simp) _ _
  replace T1 := (T1.alloc (.cells #[.slice au us.length cu] 25)).alloc (.cells #[.slice av ps.length cv] 25)
  replace T2 := (T2.alloc (.cells #[.slice au us.length cu] 25)).alloc (.cells #[.slice av ps.length cv] 25)
  replace U := (U.alloc (.cells #[.slice au us.length cu] 25)).alloc (.cells #[.slice av ps.length cv] 25)
  replace Q := (Q.alloc (.cells #[.slice au us.length cu] 25)).alloc (.cells #[.slice av ps.length cv] 25)
  replace hBw : Below w.heap.size w ((w1.alloc (.cells #[.slice au us.length cu] 25)).alloc (.cells #[.slice av ps.length cv] 25)) := old_alloc (old_alloc hBw _) _
  have e1 : w.heap.size ≠ w1.heap.size := by omega
  have e2 : w.heap.size ≠ w1.heap.size + 1 := by omega
  have e3 : w.heap.size + 1 ≠ w1.heap.size := by omega
  have e5 : w1.heap.size ≠ w.heap.size := by omega
  have e6 : w1.heap.size + 1 ≠ w.heap.size := by omega
  have e7 : w1.heap.size ≠ w.heap.size + 1 := by omega
  go_wp2_with fail
  generalize (w1.alloc (.cells #[.slice au us.length cu] 25)).alloc (.cells #[.slice av ps.length cv] 25) = wn at *
  have t10 := T1.1
  have t11 := T1.2.1
  have t12 := T1.2.2
  have t20 := T2.1
  have t21 := T2.2.1
  have t22 := T2.2.2
  have x0 := X.1
  have y0 := Y.1
  go_region
  all_goals
    go_wp2
    refine bodyPost_ret (v := .tuple #[.int .i64 wd, .agg #[.slice au us.length cu], .agg #[.slice av ps.length cv]]) ?_ rfl ⟨⟨wd, au, cu, us, av, cv, ps, hwd, rfl, hul, hpl, ?_, ?_⟩, ?_⟩
    · have X1 := (T1.set (.slice au us.length cu)).other ⟨w.heap.size + 1, 0, none⟩ (by simp <;> omega) (.slice av ps.length cv)
      have X2 := (T2.other ⟨w.heap.size, 0, none⟩ (by simp <;> omega) (.slice au us.length cu)).set (.slice av ps.length cv)
      simp [results, Try.results13, go_sem, X1.1, X2.1]
    · exact ((U.set1 (b := w.heap.size) (by omega) _).set1 (b := w.heap.size + 1) (by omega) _).mono' (by omega)
    · exact ((Q.set1 (b := w.heap.size) (by omega) _).set1 (b := w.heap.size + 1) (by omega) _).mono' (by omega)
    · repeat (first | with_reducible exact hBw | with_reducible refine Below.drew ?_ | (refine Below.setCell ?_ ?_ _; rotate_left; (first | exact Nat.le_refl _ | exact Nat.le_add_right _ _ | omega)))
end Go.Proofs.Ytpnfkigeagbhpaa
