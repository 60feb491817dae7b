/- The draw of a list of patterns: at most 15 numbers, in memory of their own; all old memory as it was. No condition. -/
import Derived.Test.YtmllcpcbaojipaaDoorPK24
import Derived.Test.YtmllcpcbaojipaaDoorPK19
import Derived.Deep.RegionHeld3
import Derived.Deep.AppendLies
namespace Go.Proofs.YtmllcpcbaojipaaDoor
open Go.RowKit
set_option linter.unusedVariables false
set_option maxRecDepth 100000

theorem uints_set (xs : List Int) (k : Nat) (x : Int) : uints (xs.set k x) = (uints xs).set k (.int .u64 x) := by simp [uints, List.map_set]
theorem UFits.set {xs : List Int} (h : UFits xs) (k : Nat) (x : Int) (hx : 0 ≤ x ∧ x ≤ 18446744073709551615) : UFits (xs.set k x) := fun y hy => by
  rcases List.mem_or_eq_of_mem_set hy with h1 | rfl
  · exact h y h1
  · exact hx
theorem u64_bd (x : Int) : 0 ≤ IntKind.u64.wrap x ∧ IntKind.u64.wrap x ≤ 18446744073709551615 := by
  rw [IntKind.wrap_u64]
  omega
theorem UFits.snoc0 {xs : List Int} (h : UFits xs) : UFits (xs ++ [0]) := fun y hy => by
  rcases List.mem_append.1 hy with h1 | h1
  · exact h y h1
  · rw [List.mem_singleton] at h1; subst h1; omega
theorem UGrows.but {w w' : World} {base rb : Nat} {v : Value} {xs : List Int} (h : UGrows w base v xs) (k : But rb w w') (hlt : rb < base) : UGrows w' base v xs := h.kept (but_grown k) (fun b e => by cases e; exact hlt)
theorem UGrows.rowAt {w : World} {base g n cap k : Nat} {xs : List Int} (h : UGrows w base (.slice (some ⟨g, 0, Option.none⟩) n cap) xs) (hl : xs.length = n) (hk : k < n) : w.cell? ⟨g, k, Option.none⟩ = some (.int .u64 (xs.getD k 0)) ∧ w.frozen? ⟨g, k, Option.none⟩ = false := by
  obtain ⟨g', cap', e, -, -, -, hr⟩ := h.row (by omega)
  injection e with e1
  injection e1 with e1
  injection e1 with e1
  subst e1
  exact hr.2 k (by omega)
theorem UGrows.put {w : World} {base g n cap k : Nat} {xs : List Int} (h : UGrows w base (.slice (some ⟨g, 0, Option.none⟩) n cap) xs) (hl : xs.length = n) (hk : k < n) (x : Int) : UGrows (w.setCell ⟨g, k, Option.none⟩ (.int .u64 x)) base (.slice (some ⟨g, 0, Option.none⟩) n cap) (xs.set k x) := by
  unfold UGrows at h ⊢
  rw [hl] at h
  rw [List.length_set, hl, uints_set]
  exact (World.ownsRow.stored h k (.int .u64 x)).1
set_option maxRecDepth 100000 in
set_option maxHeartbeats 8000000 in
theorem drawBoxOf (w : World) (c : Option Addr) (len cap0 : Nat) (h : IsCode w c len cap0) :
    Calls Tryd.prog 9 #[.slice c len cap0] w fun e w' => (∃ wd av cv xs, e = .returned (.tuple #[.int .i64 wd, .slice av (xs : List Int).length cv]) ∧ (-64 ≤ wd ∧ wd ≤ 64) ∧ xs.length ≤ 15 ∧ OU w' w.heap.size av cv xs) ∧ Below w.heap.size w w' := by
  obtain ⟨i0, hi, hz0, hz1, hz2⟩ := info_parts infoU
  have hB0 : Below w.heap.size w w := Below.refl _ _
  go_enter Tryd.func9, Tryd.ntmps9
  go_wp2_with fail
  refine (open_kB w c len cap0 h).mono ?_
  rintro e wo ⟨rfl, o, rfl, hR⟩
  clear h
  obtain ⟨rb, hrb⟩ : ∃ rb, rb = w.heap.size := ⟨_, rfl⟩
  rw [← hrb] at hR
  have hso : (w.alloc o).heap.size = rb + 1 := by simp; omega
  have hB : But rb (w.alloc o) (w.alloc o) := But.refl _ _
  replace hB0 := old_alloc hB0 o
  generalize w.alloc o = wv at *
  have hvs : wv.heap.size ≤ rb + 1 := by omega
  have hwr : w.heap.size ≤ rb := by omega
  clear hso
  go_wp2_with fail
  rw [← hrb]
  clear hrb
  refine (width_k rb 90000 _ (hR.mono (by omega))).mono ?_
  rintro e wa ⟨⟨wd, hwd, rfl⟩, hRa, hBa⟩
  replace hB := hB.trans hBa
  clear hBa hR
  go_wp2_with fail
  refine (box_k rb 80000 _ _ (hRa.mono (by omega))).mono ?_
  rintro e wb ⟨⟨av, cv, ps, rfl, hpl, hT, O⟩, hR, hBb⟩
  replace hB := hB.trans hBb
  have lrb := hR.lt
  clear hBb hRa
  go_wp2_with fail
  refine (sBoxBitsG wd av cv ps wb O.inRow (by omega)).mono ?_
  rintro e wc ⟨⟨base, v, rfl, hbase, hsz, G⟩, hb⟩
  have hlen : Hid ((resU (okRow wd ps) (bitsL wd ps)).length ≤ 14) := resU_len (by rw [bitsL_len]; omega)
  have hfit : Hid (UFits (resU (okRow wd ps) (bitsL wd ps))) := by unfold resU; split; exact bitsL_fits _ _; exact ufits_nil
  replace hR := hR.old hb
  replace hB := hB.trans (But.of hb)
  have hrbb : rb < base := by omega
  have hvb : wv.heap.size ≤ base := by omega
  generalize resU (okRow wd ps) (bitsL wd ps) = xs at *
  clear O hT hpl hb hbase lrb
  obtain ⟨n, hl⟩ : ∃ n, Hid (xs.length = n) := ⟨_, rfl⟩
  have hn14 : n ≤ 14 := by have := hlen.out; rw [hl.out] at this; exact this
  clear hlen
  by_cases hn0 : n = 0
  · subst hn0
    obtain ⟨A, C, rfl⟩ : ∃ av cv, v = .slice av 0 cv := by have e := hl.out; obtain rfl := List.length_eq_zero_iff.1 e; exact G.none
    go_wp2_with fail
    refine (pick_k rb 1000 20 _ (hR.mono (by omega)) (by decide)).mono ?_
    rintro e x1 ⟨⟨q9, ⟨q9a, q9b⟩, rfl⟩, hR', hb'⟩
    replace G := G.but hb' hrbb
    replace hB := hB.trans hb'
    replace hsz := Nat.le_trans hsz hb'.size
    replace hR := hR'
    clear hR' hb'
    by_cases hq : q9 = 0
    · subst hq
      have G' := hd G; unfold UGrows at G'; rw [hl.out] at G'; replace G' := G'.out
      go_wp2_with (first | (at_builtin; refine wpList_append_own _ rfl _ _ 28 rfl base 38 i0 (.int .u64 0) 1 8 Tryd.underlying28 hi hz0 hz1 hz2 rfl (by decide) _ 0 (uints xs) rfl (G'.alloc (.cells #[.int .u64 0] 38)) ⟨x1.heap.size, 0, none⟩ 1 1 [.int .u64 0] rfl rfl (cell_one_new _ _ _) (by simp [Value.oneCell']) (by unfold maxLen; omega) (by omega) (by simp; omega) ?_; intro v' w5 hown hgrow hnil; obtain ⟨g', cap', rfl⟩ := ownsRow_succ hown; replace hB := (hB.alloc (.cells #[.int .u64 0] 38)).grown hgrow (fun c e => by have := (World.ownsRow.lt G c e).1; omega)))
      replace G : UGrows w5 base (.slice (some ⟨g', 0, none⟩) (0 + 1) cap') (xs ++ [0]) := by unfold UGrows; rw [uints_snoc, List.length_append, hl.out]; exact hown
      have hl5 : (xs ++ [0]).length = 0 + 1 := by rw [List.length_append, hl.out]; rfl
      clear hown hgrow hnil G'
      obtain ⟨av', cv', e1, OO⟩ := G.ou (hfit.out.snoc0)
      rw [hl5] at e1
      injection e1 with e1 e2 e3
      subst e1 e3
      have hBF := old_but hB0 hB (by omega)
      clear hR hB hB0
      go_wp2
      go_ret2
      exact ⟨⟨wd, _, _, _, by rw [hl5]; rfl, hwd, by rw [hl5]; omega, OO.mono (by omega)⟩, hBF⟩
    · have g9 : (q9 == 0) = false := beq_eq_false_iff_ne.2 hq
      obtain ⟨av', cv', e1, OO⟩ := G.ou hfit.out
      rw [hl.out] at e1
      injection e1 with e1 e2 e3
      subst e1 e3
      have hBF := old_but hB0 hB (by omega)
      clear hR hB hB0
      go_wp2
      go_ret2
      exact ⟨⟨wd, _, _, _, by rw [hl.out]; rfl, hwd, by rw [hl.out]; omega, OO.mono (by omega)⟩, hBF⟩
  have e0 : ∃ g cap, v = .slice (some ⟨g, 0, none⟩) n cap ∧ base ≤ g ∧ n ≤ cap ∧ cap ≤ maxLen := by
    obtain ⟨g, cap, e, h1, h2, h3, -⟩ := G.row (by have := hl.out; omega)
    rw [hl.out] at e h2
    exact ⟨g, cap, e, h1, h2, h3⟩
  obtain ⟨g, cap, rfl, hg, hnc, hcm⟩ := e0
  have hnI : (0 : Int) < (n : Int) := by omega
  go_wp2_with fail
  refine (pick_k rb 70000 6 _ (hR.mono (by omega)) (by decide)).mono ?_
  rintro e x2 ⟨⟨q6, ⟨q6a, q6b⟩, rfl⟩, hR', hb'⟩
  replace G := G.but hb' hrbb
  replace hB := hB.trans hb'
  replace hsz := Nat.le_trans hsz hb'.size
  replace hR := hR'
  clear hR' hb'
  by_cases h6 : q6 = 0
  · subst h6
    go_wp2_with fail
    refine (pick_k rb 60000 (n : Int) _ (hR.mono (by omega)) (by omega)).mono ?_
    rintro e x3 ⟨⟨k6, ⟨k6a, k6b⟩, rfl⟩, hR', hb'⟩
    replace G := G.but hb' hrbb
    replace hB := hB.trans hb'
    replace hsz := Nat.le_trans hsz hb'.size
    replace hR := hR'
    clear hR' hb'
    go_wp2_with fail
    refine (big_k rb 50000 _ (hR.mono (by omega))).mono ?_
    rintro e x4 ⟨⟨x6, ⟨x6a, x6b⟩, rfl⟩, hR', hb'⟩
    replace G := G.but hb' hrbb
    replace hB := hB.trans hb'
    replace hsz := Nat.le_trans hsz hb'.size
    replace hR := hR'
    clear hR' hb'
    obtain ⟨k6n, rfl⟩ : ∃ m : Nat, k6 = m := ⟨k6.toNat, by omega⟩
    have hkn : k6n < n := by omega
    have cc := ((G.rowAt hl.out hkn).1)
    have cf := ((G.rowAt hl.out hkn).2)
    have k6I : ((k6n : Nat) : Int) < (n : Int) := by omega
    go_upto_region 6 with fail
    replace hR := hR.far g k6n (by omega) (.int .u64 (x6))
    replace hB := hB.far (p := ⟨g, k6n, none⟩) (by simp; omega) (.int .u64 (x6))
    replace G := G.put hl.out hkn (x6)
    replace hfit := hd (hfit.out.set k6n (x6) (by omega))
    replace hl : Hid ((xs.set k6n (x6)).length = n) := by show _ = _; rw [List.length_set]; exact hl.out
    replace hsz : base ≤ (x4.setCell ⟨g, k6n, none⟩ (.int .u64 (x6))).heap.size := by simpa [World.setCell] using hsz
    generalize x4.setCell ⟨g, k6n, none⟩ (.int .u64 (x6)) = wy4 at *
    generalize xs.set k6n (x6) = xs at *
    try clear cc cf
    go_wp2_with fail
    refine (pick_k rb 20000 8 _ (hR.mono (by omega)) (by decide)).mono ?_
    rintro e x5 ⟨⟨q8, ⟨q8a, q8b⟩, rfl⟩, hR', hb'⟩
    replace G := G.but hb' hrbb
    replace hB := hB.trans hb'
    replace hsz := Nat.le_trans hsz hb'.size
    replace hR := hR'
    clear hR' hb'
    by_cases h8 : q8 = 0
    · subst h8
      go_wp2_with fail
      refine (pick_k rb 10000 (n : Int) _ (hR.mono (by omega)) (by omega)).mono ?_
      rintro e x6 ⟨⟨k8, ⟨k8a, k8b⟩, rfl⟩, hR', hb'⟩
      replace G := G.but hb' hrbb
      replace hB := hB.trans hb'
      replace hsz := Nat.le_trans hsz hb'.size
      replace hR := hR'
      clear hR' hb'
      obtain ⟨k8n, rfl⟩ : ∃ m : Nat, k8 = m := ⟨k8.toNat, by omega⟩
      have hkn : k8n < n := by omega
      have cc := ((G.rowAt hl.out hkn).1)
      have cf := ((G.rowAt hl.out hkn).2)
      obtain ⟨old, hold⟩ : ∃ o, xs.getD k8n 0 = o := ⟨_, rfl⟩
      rw [hold] at cc
      have k8I : ((k8n : Nat) : Int) < (n : Int) := by omega
      go_upto_region 8 with fail
      have cc1 : x6.drew.cell? ⟨g, k8n, none⟩ = some (.int .u64 old) := cc
      have cf1 : x6.drew.frozen? ⟨g, k8n, none⟩ = false := cf
      go_region_with (first | (go_at_call 27; refine (pick_k rb 5000 64 _ (hR.drewd.mono (by omega)) (by decide)).mono ?_; rintro e wz ⟨⟨s8, ⟨s8a, s8b⟩, rfl⟩, hR2, hb2⟩; have G2 := UGrows.but (show UGrows x6.drew base (.slice (some ⟨g, 0, none⟩) n cap) xs from G) hb2 hrbb; have cc2 := (G2.rowAt hl.out hkn).1; rw [hold] at cc2; have cf2 := (G2.rowAt hl.out hkn).2))
      all_goals
        have xb : 0 ≤ IntKind.u64.wrap (old + IntKind.u64.wrap (2 ^ min (IntKind.u64.wrap s8).toNat 64)) ∧ IntKind.u64.wrap (old + IntKind.u64.wrap (2 ^ min (IntKind.u64.wrap s8).toNat 64)) ≤ 18446744073709551615 := u64_bd _
        generalize IntKind.u64.wrap (old + IntKind.u64.wrap (2 ^ min (IntKind.u64.wrap s8).toNat 64)) = x8 at *
        replace hR := hR2
        replace hB := hB.drew.trans hb2
        have hsz2 : base ≤ wz.heap.size := Nat.le_trans hsz hb2.size
        replace hsz := hsz2
        replace G := G2
        clear hR2 hb2 G2 cc1 cf1 cc2 cf2 hold hsz2
        replace hR := hR.far g k8n (by omega) (.int .u64 (x8))
        replace hB := hB.far (p := ⟨g, k8n, none⟩) (by simp; omega) (.int .u64 (x8))
        replace G := G.put hl.out hkn (x8)
        replace hfit := hd (hfit.out.set k8n (x8) (by omega))
        replace hl : Hid ((xs.set k8n (x8)).length = n) := by show _ = _; rw [List.length_set]; exact hl.out
        replace hsz : base ≤ (wz.setCell ⟨g, k8n, none⟩ (.int .u64 (x8))).heap.size := by simpa [World.setCell] using hsz
        generalize wz.setCell ⟨g, k8n, none⟩ (.int .u64 (x8)) = wy6 at *
        generalize xs.set k8n (x8) = xs at *
        try clear cc cf
        go_wp2_with fail
        refine (pick_k rb 1000 20 _ (hR.mono (by omega)) (by decide)).mono ?_
        rintro e x7 ⟨⟨q9, ⟨q9a, q9b⟩, rfl⟩, hR', hb'⟩
        replace G := G.but hb' hrbb
        replace hB := hB.trans hb'
        replace hsz := Nat.le_trans hsz hb'.size
        replace hR := hR'
        clear hR' hb'
        by_cases hq : q9 = 0
        · subst hq
          have G' := hd G; unfold UGrows at G'; rw [hl.out] at G'; replace G' := G'.out
          go_wp2_with (first | (at_builtin; refine wpList_append_own _ rfl _ _ 28 rfl base 38 i0 (.int .u64 0) 1 8 Tryd.underlying28 hi hz0 hz1 hz2 rfl (by decide) _ n (uints xs) rfl (G'.alloc (.cells #[.int .u64 0] 38)) ⟨x7.heap.size, 0, none⟩ 1 1 [.int .u64 0] rfl rfl (cell_one_new _ _ _) (by simp [Value.oneCell']) (by unfold maxLen; omega) (by omega) (by simp; omega) ?_; intro v' w5 hown hgrow hnil; obtain ⟨g', cap', rfl⟩ := ownsRow_succ hown; replace hB := (hB.alloc (.cells #[.int .u64 0] 38)).grown hgrow (fun c e => by have := (World.ownsRow.lt G c e).1; omega)))
          replace G : UGrows w5 base (.slice (some ⟨g', 0, none⟩) (n + 1) cap') (xs ++ [0]) := by unfold UGrows; rw [uints_snoc, List.length_append, hl.out]; exact hown
          have hl5 : (xs ++ [0]).length = n + 1 := by rw [List.length_append, hl.out]; rfl
          clear hown hgrow hnil G'
          obtain ⟨av', cv', e1, OO⟩ := G.ou (hfit.out.snoc0)
          rw [hl5] at e1
          injection e1 with e1 e2 e3
          subst e1 e3
          have hBF := old_but hB0 hB (by omega)
          clear hR hB hB0
          go_wp2
          go_ret2
          exact ⟨⟨wd, _, _, _, by rw [hl5]; rfl, hwd, by rw [hl5]; omega, OO.mono (by omega)⟩, hBF⟩
        · have g9 : (q9 == 0) = false := beq_eq_false_iff_ne.2 hq
          obtain ⟨av', cv', e1, OO⟩ := G.ou hfit.out
          rw [hl.out] at e1
          injection e1 with e1 e2 e3
          subst e1 e3
          have hBF := old_but hB0 hB (by omega)
          clear hR hB hB0
          go_wp2
          go_ret2
          exact ⟨⟨wd, _, _, _, by rw [hl.out]; rfl, hwd, by rw [hl.out]; omega, OO.mono (by omega)⟩, hBF⟩
    · have g8 : (q8 == 0) = false := beq_eq_false_iff_ne.2 h8
      go_wp2_with fail
      refine (pick_k rb 1000 20 _ (hR.mono (by omega)) (by decide)).mono ?_
      rintro e x8 ⟨⟨q9, ⟨q9a, q9b⟩, rfl⟩, hR', hb'⟩
      replace G := G.but hb' hrbb
      replace hB := hB.trans hb'
      replace hsz := Nat.le_trans hsz hb'.size
      replace hR := hR'
      clear hR' hb'
      by_cases hq : q9 = 0
      · subst hq
        have G' := hd G; unfold UGrows at G'; rw [hl.out] at G'; replace G' := G'.out
        go_wp2_with (first | (at_builtin; refine wpList_append_own _ rfl _ _ 28 rfl base 38 i0 (.int .u64 0) 1 8 Tryd.underlying28 hi hz0 hz1 hz2 rfl (by decide) _ n (uints xs) rfl (G'.alloc (.cells #[.int .u64 0] 38)) ⟨x8.heap.size, 0, none⟩ 1 1 [.int .u64 0] rfl rfl (cell_one_new _ _ _) (by simp [Value.oneCell']) (by unfold maxLen; omega) (by omega) (by simp; omega) ?_; intro v' w5 hown hgrow hnil; obtain ⟨g', cap', rfl⟩ := ownsRow_succ hown; replace hB := (hB.alloc (.cells #[.int .u64 0] 38)).grown hgrow (fun c e => by have := (World.ownsRow.lt G c e).1; omega)))
        replace G : UGrows w5 base (.slice (some ⟨g', 0, none⟩) (n + 1) cap') (xs ++ [0]) := by unfold UGrows; rw [uints_snoc, List.length_append, hl.out]; exact hown
        have hl5 : (xs ++ [0]).length = n + 1 := by rw [List.length_append, hl.out]; rfl
        clear hown hgrow hnil G'
        obtain ⟨av', cv', e1, OO⟩ := G.ou (hfit.out.snoc0)
        rw [hl5] at e1
        injection e1 with e1 e2 e3
        subst e1 e3
        have hBF := old_but hB0 hB (by omega)
        clear hR hB hB0
        go_wp2
        go_ret2
        exact ⟨⟨wd, _, _, _, by rw [hl5]; rfl, hwd, by rw [hl5]; omega, OO.mono (by omega)⟩, hBF⟩
      · have g9 : (q9 == 0) = false := beq_eq_false_iff_ne.2 hq
        obtain ⟨av', cv', e1, OO⟩ := G.ou hfit.out
        rw [hl.out] at e1
        injection e1 with e1 e2 e3
        subst e1 e3
        have hBF := old_but hB0 hB (by omega)
        clear hR hB hB0
        go_wp2
        go_ret2
        exact ⟨⟨wd, _, _, _, by rw [hl.out]; rfl, hwd, by rw [hl.out]; omega, OO.mono (by omega)⟩, hBF⟩
  · have g6 : (q6 == 0) = false := beq_eq_false_iff_ne.2 h6
    go_wp2_with fail
    refine (pick_k rb 20000 8 _ (hR.mono (by omega)) (by decide)).mono ?_
    rintro e x9 ⟨⟨q8, ⟨q8a, q8b⟩, rfl⟩, hR', hb'⟩
    replace G := G.but hb' hrbb
    replace hB := hB.trans hb'
    replace hsz := Nat.le_trans hsz hb'.size
    replace hR := hR'
    clear hR' hb'
    by_cases h8 : q8 = 0
    · subst h8
      go_wp2_with fail
      refine (pick_k rb 10000 (n : Int) _ (hR.mono (by omega)) (by omega)).mono ?_
      rintro e x10 ⟨⟨k8, ⟨k8a, k8b⟩, rfl⟩, hR', hb'⟩
      replace G := G.but hb' hrbb
      replace hB := hB.trans hb'
      replace hsz := Nat.le_trans hsz hb'.size
      replace hR := hR'
      clear hR' hb'
      obtain ⟨k8n, rfl⟩ : ∃ m : Nat, k8 = m := ⟨k8.toNat, by omega⟩
      have hkn : k8n < n := by omega
      have cc := ((G.rowAt hl.out hkn).1)
      have cf := ((G.rowAt hl.out hkn).2)
      obtain ⟨old, hold⟩ : ∃ o, xs.getD k8n 0 = o := ⟨_, rfl⟩
      rw [hold] at cc
      have k8I : ((k8n : Nat) : Int) < (n : Int) := by omega
      go_upto_region 8 with fail
      have cc1 : x10.drew.cell? ⟨g, k8n, none⟩ = some (.int .u64 old) := cc
      have cf1 : x10.drew.frozen? ⟨g, k8n, none⟩ = false := cf
      go_region_with (first | (go_at_call 27; refine (pick_k rb 5000 64 _ (hR.drewd.mono (by omega)) (by decide)).mono ?_; rintro e wz ⟨⟨s8, ⟨s8a, s8b⟩, rfl⟩, hR2, hb2⟩; have G2 := UGrows.but (show UGrows x10.drew base (.slice (some ⟨g, 0, none⟩) n cap) xs from G) hb2 hrbb; have cc2 := (G2.rowAt hl.out hkn).1; rw [hold] at cc2; have cf2 := (G2.rowAt hl.out hkn).2))
      all_goals
        have xb : 0 ≤ IntKind.u64.wrap (old + IntKind.u64.wrap (2 ^ min (IntKind.u64.wrap s8).toNat 64)) ∧ IntKind.u64.wrap (old + IntKind.u64.wrap (2 ^ min (IntKind.u64.wrap s8).toNat 64)) ≤ 18446744073709551615 := u64_bd _
        generalize IntKind.u64.wrap (old + IntKind.u64.wrap (2 ^ min (IntKind.u64.wrap s8).toNat 64)) = x8 at *
        replace hR := hR2
        replace hB := hB.drew.trans hb2
        have hsz2 : base ≤ wz.heap.size := Nat.le_trans hsz hb2.size
        replace hsz := hsz2
        replace G := G2
        clear hR2 hb2 G2 cc1 cf1 cc2 cf2 hold hsz2
        replace hR := hR.far g k8n (by omega) (.int .u64 (x8))
        replace hB := hB.far (p := ⟨g, k8n, none⟩) (by simp; omega) (.int .u64 (x8))
        replace G := G.put hl.out hkn (x8)
        replace hfit := hd (hfit.out.set k8n (x8) (by omega))
        replace hl : Hid ((xs.set k8n (x8)).length = n) := by show _ = _; rw [List.length_set]; exact hl.out
        replace hsz : base ≤ (wz.setCell ⟨g, k8n, none⟩ (.int .u64 (x8))).heap.size := by simpa [World.setCell] using hsz
        generalize wz.setCell ⟨g, k8n, none⟩ (.int .u64 (x8)) = wy10 at *
        generalize xs.set k8n (x8) = xs at *
        try clear cc cf
        go_wp2_with fail
        refine (pick_k rb 1000 20 _ (hR.mono (by omega)) (by decide)).mono ?_
        rintro e x11 ⟨⟨q9, ⟨q9a, q9b⟩, rfl⟩, hR', hb'⟩
        replace G := G.but hb' hrbb
        replace hB := hB.trans hb'
        replace hsz := Nat.le_trans hsz hb'.size
        replace hR := hR'
        clear hR' hb'
        by_cases hq : q9 = 0
        · subst hq
          have G' := hd G; unfold UGrows at G'; rw [hl.out] at G'; replace G' := G'.out
          go_wp2_with (first | (at_builtin; refine wpList_append_own _ rfl _ _ 28 rfl base 38 i0 (.int .u64 0) 1 8 Tryd.underlying28 hi hz0 hz1 hz2 rfl (by decide) _ n (uints xs) rfl (G'.alloc (.cells #[.int .u64 0] 38)) ⟨x11.heap.size, 0, none⟩ 1 1 [.int .u64 0] rfl rfl (cell_one_new _ _ _) (by simp [Value.oneCell']) (by unfold maxLen; omega) (by omega) (by simp; omega) ?_; intro v' w5 hown hgrow hnil; obtain ⟨g', cap', rfl⟩ := ownsRow_succ hown; replace hB := (hB.alloc (.cells #[.int .u64 0] 38)).grown hgrow (fun c e => by have := (World.ownsRow.lt G c e).1; omega)))
          replace G : UGrows w5 base (.slice (some ⟨g', 0, none⟩) (n + 1) cap') (xs ++ [0]) := by unfold UGrows; rw [uints_snoc, List.length_append, hl.out]; exact hown
          have hl5 : (xs ++ [0]).length = n + 1 := by rw [List.length_append, hl.out]; rfl
          clear hown hgrow hnil G'
          obtain ⟨av', cv', e1, OO⟩ := G.ou (hfit.out.snoc0)
          rw [hl5] at e1
          injection e1 with e1 e2 e3
          subst e1 e3
          have hBF := old_but hB0 hB (by omega)
          clear hR hB hB0
          go_wp2
          go_ret2
          exact ⟨⟨wd, _, _, _, by rw [hl5]; rfl, hwd, by rw [hl5]; omega, OO.mono (by omega)⟩, hBF⟩
        · have g9 : (q9 == 0) = false := beq_eq_false_iff_ne.2 hq
          obtain ⟨av', cv', e1, OO⟩ := G.ou hfit.out
          rw [hl.out] at e1
          injection e1 with e1 e2 e3
          subst e1 e3
          have hBF := old_but hB0 hB (by omega)
          clear hR hB hB0
          go_wp2
          go_ret2
          exact ⟨⟨wd, _, _, _, by rw [hl.out]; rfl, hwd, by rw [hl.out]; omega, OO.mono (by omega)⟩, hBF⟩
    · have g8 : (q8 == 0) = false := beq_eq_false_iff_ne.2 h8
      go_wp2_with fail
      refine (pick_k rb 1000 20 _ (hR.mono (by omega)) (by decide)).mono ?_
      rintro e x12 ⟨⟨q9, ⟨q9a, q9b⟩, rfl⟩, hR', hb'⟩
      replace G := G.but hb' hrbb
      replace hB := hB.trans hb'
      replace hsz := Nat.le_trans hsz hb'.size
      replace hR := hR'
      clear hR' hb'
      by_cases hq : q9 = 0
      · subst hq
        have G' := hd G; unfold UGrows at G'; rw [hl.out] at G'; replace G' := G'.out
        go_wp2_with (first | (at_builtin; refine wpList_append_own _ rfl _ _ 28 rfl base 38 i0 (.int .u64 0) 1 8 Tryd.underlying28 hi hz0 hz1 hz2 rfl (by decide) _ n (uints xs) rfl (G'.alloc (.cells #[.int .u64 0] 38)) ⟨x12.heap.size, 0, none⟩ 1 1 [.int .u64 0] rfl rfl (cell_one_new _ _ _) (by simp [Value.oneCell']) (by unfold maxLen; omega) (by omega) (by simp; omega) ?_; intro v' w5 hown hgrow hnil; obtain ⟨g', cap', rfl⟩ := ownsRow_succ hown; replace hB := (hB.alloc (.cells #[.int .u64 0] 38)).grown hgrow (fun c e => by have := (World.ownsRow.lt G c e).1; omega)))
        replace G : UGrows w5 base (.slice (some ⟨g', 0, none⟩) (n + 1) cap') (xs ++ [0]) := by unfold UGrows; rw [uints_snoc, List.length_append, hl.out]; exact hown
        have hl5 : (xs ++ [0]).length = n + 1 := by rw [List.length_append, hl.out]; rfl
        clear hown hgrow hnil G'
        obtain ⟨av', cv', e1, OO⟩ := G.ou (hfit.out.snoc0)
        rw [hl5] at e1
        injection e1 with e1 e2 e3
        subst e1 e3
        have hBF := old_but hB0 hB (by omega)
        clear hR hB hB0
        go_wp2
        go_ret2
        exact ⟨⟨wd, _, _, _, by rw [hl5]; rfl, hwd, by rw [hl5]; omega, OO.mono (by omega)⟩, hBF⟩
      · have g9 : (q9 == 0) = false := beq_eq_false_iff_ne.2 hq
        obtain ⟨av', cv', e1, OO⟩ := G.ou hfit.out
        rw [hl.out] at e1
        injection e1 with e1 e2 e3
        subst e1 e3
        have hBF := old_but hB0 hB (by omega)
        clear hR hB hB0
        go_wp2
        go_ret2
        exact ⟨⟨wd, _, _, _, by rw [hl.out]; rfl, hwd, by rw [hl.out]; omega, OO.mono (by omega)⟩, hBF⟩
end Go.Proofs.YtmllcpcbaojipaaDoor
