/- BoxOf of the specification. -/
import Derived.Test.YtekbhkklaogmnaaDoorBO2
namespace Go.Proofs.YtekbhkklaogmnaaDoor
open Go.RowKit
set_option linter.unusedVariables false
set_option maxRecDepth 100000

theorem ofQ_len (wd : Int) (xs : List Int) : (ofQ wd xs).length ≤ xs.length := by
  unfold ofQ
  split
  · unfold ofL; rw [madeL_length]; omega
  · exact Nat.zero_le _
theorem sWidB (wd : Int) (w : World) : Calls Tryd.prog 12 #[.int .i64 wd] w fun e w' => e = .returned (.bool (decide (wd = 32 ∨ wd = 64))) ∧ w' = w := by
  by_cases c1 : wd = 32
  · subst c1
    go_enter Tryd.func12, Tryd.ntmps12
    go_wp2
    go_ret
    exact ⟨rfl, rfl⟩
  by_cases c2 : wd = 64
  · subst c2
    go_enter Tryd.func12, Tryd.ntmps12
    go_wp2
    go_ret
    exact ⟨rfl, rfl⟩
  rw [decide_eq_false (by simp [c1, c2])]
  have b1 : (wd == 32) = false := by simp [c1]
  have b2 : (wd == 64) = false := by simp [c2]
  go_enter Tryd.func12, Tryd.ntmps12
  go_wp2
  go_ret
  exact ⟨rfl, rfl⟩
set_option maxHeartbeats 8000000 in
theorem sBoxOf (wd : Int) (a : Option Addr) (cap : Nat) (xs : List Int) (w : World) (hR : InU w a xs.length cap xs) :
    Calls Tryd.prog 4 #[.int .i64 wd, .slice a xs.length cap] w fun e w' => (∃ av cv, e = .returned (.tuple #[.agg #[.slice av (ofQ wd xs).length cv], .int .i64 (ofC wd xs)]) ∧ OB w' w.heap.size av cv (ofQ wd xs)) ∧ Below w.heap.size w w' := by
  have hlen := hR.len
  have M : Cel1 (w.alloc (.cells #[.slice none 0 0] 25)) w.heap.size (.slice none 0 0) := Cel1.made w _ rfl _ _
  have hB : Below w.heap.size w (w.alloc (.cells #[.slice none 0 0] 25)) := old_alloc (Below.refl _ _) _
  have FO := hd (sWidB wd)
  by_cases hbad : ofBad wd xs
  · have hqC := hd (ofC_bad hbad)
    have hqQ := hd (ofQ_no (wd := wd) (xs := xs) (by rw [hqC.out]; decide))
    have key : ∀ bb : Bool, decide (wd = 32 ∨ wd = 64) = bb → (bb = false ∨ (bb = true ∧ (xs.length < 2 ∨ (¬ xs.length < 2 ∧ 12 < xs.length) ∨ (¬ xs.length < 2 ∧ ¬ 12 < xs.length ∧ xs.length % 2 = 1)))) := by
      intro bb h
      unfold ofBad at hbad
      cases bb
      · exact .inl rfl
      · have := of_decide_eq_true h
        refine .inr ⟨rfl, ?_⟩
        omega
    obtain ⟨bb, hbb⟩ : ∃ bb, decide (wd = 32 ∨ wd = 64) = bb := ⟨_, rfl⟩
    have k2 := key bb hbb
    rw [hbb] at FO
    clear key hbad hbb
    go_enter Tryd.func4, Tryd.ntmps4
    go_wp2_with fail
    generalize (w.alloc (.cells #[.slice none 0 0] 25)) = W0 at *
    refine (FO.out _).mono ?_
    rintro e w1 ⟨rfl, rfl⟩
    obtain ⟨m0, m1, m2⟩ := id M
    replace M := M.set (.slice none 0 0)
    rcases k2 with rfl | ⟨rfl, h | ⟨h1, h⟩ | ⟨h1, h2, h⟩⟩
    · go_wp2
      refine bodyPost_ret (v := .tuple #[.agg #[.slice none 0 0], .int .i64 1]) ?_ rfl ⟨⟨none, 0, by rw [hqQ.out, hqC.out]; rfl, by rw [hqQ.out]; exact OB0 _ _⟩, hB.setCell (p := ⟨w.heap.size, 0, none⟩) (Nat.le_refl _) _⟩
      simp [results, Tryd.results4, go_sem, M.1]
    · have h' : (xs.length : Int) < 2 := by omega
      go_wp2
      refine bodyPost_ret (v := .tuple #[.agg #[.slice none 0 0], .int .i64 1]) ?_ rfl ⟨⟨none, 0, by rw [hqQ.out, hqC.out]; rfl, by rw [hqQ.out]; exact OB0 _ _⟩, hB.setCell (p := ⟨w.heap.size, 0, none⟩) (Nat.le_refl _) _⟩
      simp [results, Tryd.results4, go_sem, M.1]
    · have h' : (xs.length : Int) > 12 := by omega
      have h1' : ¬ (xs.length : Int) < 2 := by omega
      go_wp2
      refine bodyPost_ret (v := .tuple #[.agg #[.slice none 0 0], .int .i64 1]) ?_ rfl ⟨⟨none, 0, by rw [hqQ.out, hqC.out]; rfl, by rw [hqQ.out]; exact OB0 _ _⟩, hB.setCell (p := ⟨w.heap.size, 0, none⟩) (Nat.le_refl _) _⟩
      simp [results, Tryd.results4, go_sem, M.1]
    · have h2' : ¬ (xs.length : Int) > 12 := by omega
      have h1' : ¬ (xs.length : Int) < 2 := by omega
      have h3 : (xs.length : Int).tmod 2 = 1 := by rw [Int.tmod_eq_emod_of_nonneg (by omega)]; omega
      go_wp2
      refine bodyPost_ret (v := .tuple #[.agg #[.slice none 0 0], .int .i64 1]) ?_ rfl ⟨⟨none, 0, by rw [hqQ.out, hqC.out]; rfl, by rw [hqQ.out]; exact OB0 _ _⟩, hB.setCell (p := ⟨w.heap.size, 0, none⟩) (Nat.le_refl _) _⟩
      simp [results, Tryd.results4, go_sem, M.1]
  have hg : (wd = 32 ∨ wd = 64) ∧ 2 ≤ xs.length ∧ xs.length ≤ 12 ∧ xs.length % 2 = 0 := by unfold ofBad at hbad; omega
  obtain ⟨hw, g1, g2, g3⟩ := hg
  rw [decide_eq_true hw] at FO
  have C2 := hd (fun h => ofC_no (wd := wd) (xs := xs) hbad h)
  have C3 := hd (fun h o => ofC_or (wd := wd) (xs := xs) hbad h o)
  have C0 := hd (fun h o => ofC_ok (wd := wd) (xs := xs) hbad h o)
  unfold ofL at C3 C0
  have h1' : ¬ (xs.length : Int) < 2 := by omega
  have h2' : ¬ (xs.length : Int) > 12 := by omega
  have h3 : (xs.length : Int).tmod 2 = 0 := by rw [Int.tmod_eq_emod_of_nonneg (by omega)]; omega
  obtain ⟨n, hn⟩ : ∃ n, xs.length / 2 = n := ⟨_, rfl⟩
  rw [hn] at C2 C3 C0
  have ofl : Hid (ofL wd xs = madeL n (ofX wd xs) (ofY wd xs)) := by show _ = _; unfold ofL; rw [hn]
  have hfit := ofL_fits wd xs n
  have SO := hd (fun x h W => sOrdW wd hw x h W)
  have BK := hd (fun av nv cv W (h : InRow W av nv cv (madeL n (ofX wd xs) (ofY wd xs))) => sBoxOk wd av nv cv (madeL n (ofX wd xs) (ofY wd xs)) W h)
  have hfar := hd hR.far
  have hRo := hd (fun W (h : Below w.heap.size w W) => hR.old h)
  clear hbad hR hw
  obtain ⟨i0, hi, hz0, hz1, hz2⟩ := info_parts infoPair
  go_enter Tryd.func4, Tryd.ntmps4
  go_wp2_with fail
  refine (FO.out _).mono ?_
  rintro e w1 ⟨rfl, rfl⟩
  go_wp2
  go_loopw [7] (fun i wr => ∃ (k m : Nat) (av : Option Addr) (nv cv : Nat), m = 2 * k ∧ k ≤ n ∧ i = .int .i64 (m : Int) ∧ Hid (∀ j, j < k → ofK wd xs j = true) ∧ Grows wr (w.heap.size + 1 + 1) (.slice av nv cv) (madeL k (ofX wd xs) (ofY wd xs)) ∧ Cel1 wr (w.heap.size + 1) (.slice av nv cv) ∧ Cel1 wr w.heap.size (.slice none 0 0) ∧ w.heap.size + 1 + 1 ≤ wr.heap.size ∧ Below w.heap.size w wr) (fun b _ => xs.length - (intOf b).toNat)
  case atStart => exact ⟨0, 0, none, 0, 0, rfl, by omega, rfl, fun j hj => absurd hj (by omega), Grows.nil _ _, Cel1.made _ _ (by simp) _ _, M.alloc _, by simp, old_alloc hB _⟩
  case round =>
    clear M hB FO
    obtain ⟨k, m, av, nv, cv, hm, hk, rfl, hall, G, O, M, hszr, hB⟩ := hrel
    by_cases hlt : k < n
    · obtain ⟨b, off, x, rfl, hbl, hx, hxb, c0⟩ := (hRo.out _ hB).at (k := m) (by omega)
      obtain ⟨b', off', y, e', -, hy, hyb, c1⟩ := (hRo.out _ hB).at (k := m + 1) (by omega)
      injection e' with e'; injection e' with e1 e2; subst e1 e2
      have hbw := hfar.out (by omega) _ rfl
      have hbw' : b < w.heap.size := hbw
      clear hbw
      have E1 := hd (SO.out x hxb)
      have E2 := hd (SO.out y hyb)
      have hX : ofX wd xs k = ordW wd x := by unfold ofX; rw [← hm, hx]
      have hY : ofY wd xs k = ordW wd y := by unfold ofY; rw [← hm, hy]
      have hK : Hid (ofK wd xs k = (ordK wd x && ordK wd y)) := by show _ = _; unfold ofK; rw [← hm, hx, hy]
      have hms := madeL_snoc k (ofX wd xs) (ofY wd xs)
      rw [hX, hY] at hms
      clear hX hY hx hy
      generalize ordW wd x = u at *
      generalize ordW wd y = v at *
      generalize ordK wd x = p at *
      generalize ordK wd y = q at *
      have gi1 : (m : Int) < (xs.length : Int) := by omega
      have gi2 : IntKind.i64.wrap ((m : Int) + 1) = ((m + 1 : Nat) : Int) := by rw [IntKind.wrap_i64]; omega
      have gi3 : ((m + 1 : Nat) : Int) < (xs.length : Int) := by omega
      have gi4 : (0 : Int) ≤ ((m + 1 : Nat) : Int) := by omega
      have gi5 : IntKind.i64.wrap ((m : Int) + 2) = ((m + 2 : Nat) : Int) := by rw [IntKind.wrap_i64]; omega
      generalize hm1 : m + 1 = m1 at *
      have hm' := hd hm
      clear hm
      go_wp2_with fail
      refine (E1.out _).mono ?_
      rintro e w1 ⟨rfl, hbx⟩
      replace c1 := cell_later hbx c1
      replace O := O.later hbx
      replace M := M.later hbx
      replace G := G.later hbx
      replace hB := old_trans hB hbx
      have hs1 := Nat.le_trans hszr hbx.size
      clear hbx c0
      go_wp2_with fail
      refine (E2.out _).mono ?_
      rintro e w2 ⟨rfl, hby⟩
      replace O := O.later hby
      replace M := M.later hby
      replace G := G.later hby
      replace hB := old_trans hB hby
      have hs2 := Nat.le_trans hs1 hby.size
      clear hby c1 hszr hs1
      obtain ⟨m0, m1', m2⟩ := id M
      have hno : (p && q) = false ∨ (p && q) = true := by cases p <;> cases q <;> simp
      rcases hno with hno | hno
      · have hqC := hd (C2.out ⟨k, by omega, by rw [hK.out, hno]⟩)
        have hqQ := hd (ofQ_no (wd := wd) (xs := xs) (by rw [hqC.out]; decide))
        replace M := M.set (.slice none 0 0)
        cases p
        · go_wp2
          refine bodyPost_ret (v := .tuple #[.agg #[.slice none 0 0], .int .i64 2]) ?_ rfl ⟨⟨none, 0, by rw [hqQ.out, hqC.out]; rfl, by rw [hqQ.out]; exact OB0 _ _⟩, hB.setCell (p := ⟨w.heap.size, 0, none⟩) (Nat.le_refl _) _⟩
          simp [results, Tryd.results4, go_sem, M.1]
        cases q
        · go_wp2
          refine bodyPost_ret (v := .tuple #[.agg #[.slice none 0 0], .int .i64 2]) ?_ rfl ⟨⟨none, 0, by rw [hqQ.out, hqC.out]; rfl, by rw [hqQ.out]; exact OB0 _ _⟩, hB.setCell (p := ⟨w.heap.size, 0, none⟩) (Nat.le_refl _) _⟩
          simp [results, Tryd.results4, go_sem, M.1]
        cases hno
      obtain ⟨rfl, rfl⟩ : p = true ∧ q = true := by cases p <;> cases q <;> simp_all
      clear hno
      have O2 := O.alloc (.cells #[.int .i64 u, .int .i64 v] 39)
      have M2 := M.alloc (.cells #[.int .i64 u, .int .i64 v] 39)
      have G2 := G.alloc (.cells #[.int .i64 u, .int .i64 v] 39)
      have B2 : Below w.heap.size w (w2.alloc (.cells #[.int .i64 u, .int .i64 v] 39)) := old_alloc hB _
      have cw := cells_two w2 w2.heap.size rfl (.int .i64 u) (.int .i64 v) 39
      obtain ⟨o0, o1, o2⟩ := id O
      have hml := madeL_length k (ofX wd xs) (ofY wd xs)
      go_wp2_with (at_builtin; refine wpList_append_own _ rfl _ _ 23 rfl (w.heap.size + 1 + 1) 39 i0 _ 2 16 Tryd.underlying23 hi hz0 hz1 hz2 rfl (by decide) _ _ _ rfl G2 ⟨w2.heap.size, 0, none⟩ 1 1 [.int .i64 u, .int .i64 v] rfl rfl cw (by simp [Value.oneCell']) (by rw [hml]; unfold maxLen; omega) (by rw [hml]; omega) (by simp; omega) ?_; intro v' w5 hown hgrow _; rw [hml] at hown; obtain ⟨g', cap', rfl⟩ := ownsRow_succ hown; have O5 := O2.kept hgrow (G2.far (by omega)); have o5 := O5.1; have f5 := O5.2.1; have l5 := O5.2.2)
      have G5 : Grows w5 (w.heap.size + 1 + 1) (.slice (some ⟨g', 0, none⟩) (k + 1) cap') (madeL (k + 1) (ofX wd xs) (ofY wd xs)) := by
        rw [hms]
        unfold Grows
        rw [flat_snoc, List.length_append, hml]
        exact hown
      have M5 := M2.kept hgrow (G2.far (by omega))
      have B5 := B2.grown hgrow B2.size (fun c e => by have := (World.ownsRow.lt G2 c e).1; omega)
      have S5 := hgrow.size
      go_roundw
      case rel => exact ⟨k + 1, m + 2, _, _, _, (by have := hm'.out; omega), by omega, by go_num, fun j hj => (Nat.lt_or_ge j k).elim (fun h => hall.out j h) (fun h => by rw [show j = k by omega]; exact hK.out), G5.set (by omega) _, O5.set _, M5.other _ (by simp <;> omega) _, by simp [World.setCell]; simp at S5; omega, B5.setCell (p := ⟨w.heap.size + 1, 0, none⟩) (by show w.heap.size ≤ w.heap.size + 1; omega) _⟩
      case measure => simp [intOf]; omega
    · obtain rfl : k = n := by omega
      have gi1 : ¬ (m : Int) < (xs.length : Int) := by omega
      clear hm
      obtain ⟨g, cap2, hv, hg1, hg2, hg3, hrow⟩ := G.row (by rw [madeL_length]; omega)
      rw [madeL_length] at hv
      injection hv with e1 e2 e3
      subst e1 e2 e3
      have OX : OB wr w.heap.size (some ⟨g, 0, none⟩) cv (madeL nv (ofX wd xs) (ofY wd xs)) := OB.of_row hfit hg2 hg3 (by omega) hrow
      have RI := OX.inRow
      rw [madeL_length] at RI
      have hgM : g ≠ w.heap.size := by omega
      obtain ⟨o0, o1, o2⟩ := id O
      go_wp2_with fail
      refine (BK.out _ _ _ _ RI).mono ?_
      rintro e w3 ⟨rfl, hb3⟩
      replace hB := old_trans hB hb3
      replace M := M.later hb3
      replace O := O.later hb3
      replace OX := OX.later hb3
      clear o0 o1 o2
      obtain ⟨m0, m1, m2⟩ := id M
      obtain ⟨o0, o1, o2⟩ := id O
      have hml := madeL_length nv (ofX wd xs) (ofY wd xs)
      cases hr : okRow wd (madeL nv (ofX wd xs) (ofY wd xs))
      · have hqC := hd (C3.out hall.out hr)
        have hqQ := hd (ofQ_no (wd := wd) (xs := xs) (by rw [hqC.out]; decide))
        replace M := M.set (.slice none 0 0)
        go_wp2
        refine bodyPost_ret (v := .tuple #[.agg #[.slice none 0 0], .int .i64 3]) ?_ rfl ⟨⟨none, 0, by rw [hqQ.out, hqC.out]; rfl, by rw [hqQ.out]; exact OB0 _ _⟩, hB.setCell (p := ⟨w.heap.size, 0, none⟩) (Nat.le_refl _) _⟩
        simp [results, Tryd.results4, go_sem, M.1]
      · have hqC := hd (C0.out hall.out hr)
        have hqQ := hd (ofQ_ok hqC.out)
        replace M := M.set (.slice (some ⟨g, 0, none⟩) nv cv)
        go_wp2
        refine bodyPost_ret (v := .tuple #[.agg #[.slice (some ⟨g, 0, none⟩) nv cv], .int .i64 0]) ?_ rfl ⟨⟨some ⟨g, 0, none⟩, cv, by rw [hqQ.out, hqC.out, ofl.out, hml], by rw [hqQ.out, ofl.out]; exact OX.set _ (fun q e => by injection e with e; subst e; exact hgM) _⟩, hB.setCell (p := ⟨w.heap.size, 0, none⟩) (Nat.le_refl _) _⟩
        simp [results, Tryd.results4, go_sem, M.1]
end Go.Proofs.YtekbhkklaogmnaaDoor
