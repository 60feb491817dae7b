/- BoxOf of the program and of the specification: the walks. -/
import Derived.Test.YtekbhkklaogmnaaDoorBO
namespace Go.Proofs.YtekbhkklaogmnaaDoor
open Go.RowKit
set_option linter.unusedVariables false
set_option maxRecDepth 100000

theorem OB0 (w : World) (base : Nat) : OB w base none 0 [] := ⟨fun p hp => (by cases hp), Nat.le_refl _, by unfold maxLen; omega, .inl ⟨rfl, rfl⟩⟩
theorem OB.of_row {w : World} {base g cv : Nat} {ps : List (Int × Int)} (hf : Fits ps) (h1 : ps.length ≤ cv) (h2 : cv ≤ maxLen) (hb : base ≤ g) (h : Row w g ps) : OB w base (some ⟨g, 0, none⟩) cv ps := ⟨hf, h1, h2, .inr ⟨g, rfl, hb, h⟩⟩
def erV (c : Int) : Value := if c = 0 then .nilIface else .iface 46 (.agg #[.int .i64 c])
set_option maxHeartbeats 8000000 in
theorem iBoxFrom (wd : Int) (a : Option Addr) (cap : Nat) (xs : List Int) (w : World) (hR : InU w a xs.length cap xs) :
    Calls Tryd.prog 15 #[.int .i64 wd, .slice a xs.length cap] w fun e w' => (∃ av cv, e = .returned (.tuple #[.agg #[.slice av (ofQ wd xs).length cv], erV (ofC wd xs)]) ∧ OB w' w.heap.size av cv (ofQ wd xs)) ∧ Below w.heap.size w w' := by
  have hlen := hR.len
  have K : Cel1 (((w.alloc (.cells #[.int .i64 wd] 3)).alloc (.cells #[.slice a xs.length cap] 22)).alloc (.cells #[.slice none 0 0] 25)) w.heap.size (.int .i64 wd) := ((Cel1.made w _ rfl _ _).alloc _).alloc _
  have L : Cel1 (((w.alloc (.cells #[.int .i64 wd] 3)).alloc (.cells #[.slice a xs.length cap] 22)).alloc (.cells #[.slice none 0 0] 25)) (w.heap.size + 1) (.slice a xs.length cap) := (Cel1.made _ _ (by simp) _ _).alloc _
  have M : Cel1 (((w.alloc (.cells #[.int .i64 wd] 3)).alloc (.cells #[.slice a xs.length cap] 22)).alloc (.cells #[.slice none 0 0] 25)) (w.heap.size + 1 + 1) (.slice none 0 0) := Cel1.made _ _ (by simp) _ _
  have hB : Below w.heap.size w (((w.alloc (.cells #[.int .i64 wd] 3)).alloc (.cells #[.slice a xs.length cap] 22)).alloc (.cells #[.slice none 0 0] 25)) := old_alloc (old_alloc (old_alloc (Below.refl _ _) _) _) _
  have FO := hd (iFormOfB wd)
  by_cases hbad : ofBad wd xs
  · have hqC := hd (ofC_bad hbad)
    have hqQ := hd (ofQ_no (wd := wd) (xs := xs) (by rw [hqC.out]; decide))
    have hbr : (wd = 32 ∨ wd = 64) ∨ ¬ (wd = 32 ∨ wd = 64) := Classical.em _
    have key : ∀ bb : Bool, decide (wd = 32 ∨ wd = 64) = bb → (bb = false ∨ (bb = true ∧ (xs.length < 2 ∨ (¬ xs.length < 2 ∧ 12 < xs.length) ∨ (¬ xs.length < 2 ∧ ¬ 12 < xs.length ∧ xs.length % 2 = 1)))) := by
      intro bb h
      unfold ofBad at hbad
      cases bb
      · exact .inl rfl
      · have := of_decide_eq_true h
        refine .inr ⟨rfl, ?_⟩
        omega
    obtain ⟨bb, hbb⟩ : ∃ bb, decide (wd = 32 ∨ wd = 64) = bb := ⟨_, rfl⟩
    have k2 := key bb hbb
    rw [hbb] at FO
    clear key hbr hbad hbb
    go_enter Tryd.func15, Tryd.ntmps15
    obtain ⟨l0, l1, l2⟩ := id L
    obtain ⟨k0, k1, k2'⟩ := id K
    go_wp2_with fail
    generalize (((w.alloc (.cells #[.int .i64 wd] 3)).alloc (.cells #[.slice a xs.length cap] 22)).alloc (.cells #[.slice none 0 0] 25)) = W0 at *
    refine (FO.out _).mono ?_
    rintro e w1 ⟨⟨v, rfl⟩, hb1⟩
    replace hB := old_trans hB hb1
    replace M := M.later hb1
    obtain ⟨m0, m1, m2⟩ := id M
    clear k0 k1 k2' l0 l1 l2 K L FO
    replace M := M.set (.slice none 0 0)
    rcases k2 with rfl | ⟨rfl, h | ⟨h1, h⟩ | ⟨h1, h2, h⟩⟩
    · go_wp2
      refine bodyPost_ret (v := .tuple #[.agg #[.slice none 0 0], .iface 46 (.agg #[.int .i64 1])]) ?_ rfl ⟨⟨none, 0, by rw [hqQ.out, hqC.out]; rfl, by rw [hqQ.out]; exact OB0 _ _⟩, hB.setCell (p := ⟨w.heap.size + 1 + 1, 0, none⟩) (by show w.heap.size ≤ w.heap.size + 1 + 1; omega) _⟩
      simp [results, Tryd.results15, go_sem, M.1]
    · have h' : (xs.length : Int) < 2 := by omega
      go_wp2
      refine bodyPost_ret (v := .tuple #[.agg #[.slice none 0 0], .iface 46 (.agg #[.int .i64 1])]) ?_ rfl ⟨⟨none, 0, by rw [hqQ.out, hqC.out]; rfl, by rw [hqQ.out]; exact OB0 _ _⟩, hB.setCell (p := ⟨w.heap.size + 1 + 1, 0, none⟩) (by show w.heap.size ≤ w.heap.size + 1 + 1; omega) _⟩
      simp [results, Tryd.results15, go_sem, M.1]
    · have h' : (xs.length : Int) > 12 := by omega
      have h1' : ¬ (xs.length : Int) < 2 := by omega
      go_wp2
      refine bodyPost_ret (v := .tuple #[.agg #[.slice none 0 0], .iface 46 (.agg #[.int .i64 1])]) ?_ rfl ⟨⟨none, 0, by rw [hqQ.out, hqC.out]; rfl, by rw [hqQ.out]; exact OB0 _ _⟩, hB.setCell (p := ⟨w.heap.size + 1 + 1, 0, none⟩) (by show w.heap.size ≤ w.heap.size + 1 + 1; omega) _⟩
      simp [results, Tryd.results15, go_sem, M.1]
    · have h2' : ¬ (xs.length : Int) > 12 := by omega
      have h1' : ¬ (xs.length : Int) < 2 := by omega
      have h3 : (xs.length : Int).tmod 2 = 1 := by rw [Int.tmod_eq_emod_of_nonneg (by omega)]; omega
      go_wp2
      refine bodyPost_ret (v := .tuple #[.agg #[.slice none 0 0], .iface 46 (.agg #[.int .i64 1])]) ?_ rfl ⟨⟨none, 0, by rw [hqQ.out, hqC.out]; rfl, by rw [hqQ.out]; exact OB0 _ _⟩, hB.setCell (p := ⟨w.heap.size + 1 + 1, 0, none⟩) (by show w.heap.size ≤ w.heap.size + 1 + 1; omega) _⟩
      simp [results, Tryd.results15, go_sem, M.1]
  have hg : (wd = 32 ∨ wd = 64) ∧ 2 ≤ xs.length ∧ xs.length ≤ 12 ∧ xs.length % 2 = 0 := by unfold ofBad at hbad; omega
  obtain ⟨hw, g1, g2, g3⟩ := hg
  rw [decide_eq_true hw] at FO
  have C2 := hd (fun h => ofC_no (wd := wd) (xs := xs) hbad h)
  have C3 := hd (fun h o => ofC_or (wd := wd) (xs := xs) hbad h o)
  have C0 := hd (fun h o => ofC_ok (wd := wd) (xs := xs) hbad h o)
  unfold ofL at C3 C0
  have h1' : ¬ (xs.length : Int) < 2 := by omega
  have h2' : ¬ (xs.length : Int) > 12 := by omega
  have h3 : (xs.length : Int).tmod 2 = 0 := by rw [Int.tmod_eq_emod_of_nonneg (by omega)]; omega
  obtain ⟨n, hn⟩ : ∃ n, xs.length / 2 = n := ⟨_, rfl⟩
  have hq : (xs.length : Int).tdiv 2 = (n : Int) := by rw [Int.tdiv_eq_ediv_of_nonneg (by omega)]; omega
  have hwq : IntKind.i64.wrap (n : Int) = (n : Int) := by rw [IntKind.wrap_i64]; omega
  rw [hn] at C2 C3 C0
  have ofl : ofL wd xs = madeL n (ofX wd xs) (ofY wd xs) := by unfold ofL; rw [hn]
  have hfit := ofL_fits wd xs n
  clear hbad
  go_enter Tryd.func15, Tryd.ntmps15
  obtain ⟨l0, l1, l2⟩ := id L
  obtain ⟨k0, k1, k2'⟩ := id K
  have s0 : w.heap.size + 1 + 1 < (((w.alloc (.cells #[.int .i64 wd] 3)).alloc (.cells #[.slice a xs.length cap] 22)).alloc (.cells #[.slice none 0 0] 25)).heap.size := M.2.2
  have hR1 := hR.old hB
  go_wp2_with fail
  generalize (((w.alloc (.cells #[.int .i64 wd] 3)).alloc (.cells #[.slice a xs.length cap] 22)).alloc (.cells #[.slice none 0 0] 25)) = W0 at *
  refine (FO.out _).mono ?_
  rintro e w1 ⟨⟨v, rfl⟩, hb1⟩
  replace hB := old_trans hB hb1
  replace M := M.later hb1
  replace L := L.later hb1
  replace K := K.later hb1
  replace hR1 := hR1.old hb1
  have s1 := hb1.size
  clear k0 k1 k2' l0 l1 l2 FO hb1
  obtain ⟨l0, l1, l2⟩ := id L
  obtain ⟨k0, k1, k2'⟩ := id K
  go_wp2_with fail
  refine (ofEach 24 #[.pointer (some ⟨w.heap.size, 0, none⟩), .pointer (some ⟨w.heap.size + 1, 0, none⟩)] n (by omega) (ofX wd xs) (ofY wd xs) (ofK wd xs) w1 (enters_of Tryd.func24 (by kernel_rfl) rfl)
    (fun k W hk hW => iFrom1 wd hw a xs.length cap xs w.heap.size (w.heap.size + 1) k (by omega) W (hR1.old hW) (K.later hW).1 (K.later hW).2.2 (L.later hW).1 (L.later hW).2.2)).mono ?_
  rintro e w2 ⟨⟨hall, g, rfl, hgb, hrow⟩ | ⟨hno, rfl⟩, hb2⟩
  case inr =>
    have hqC := hd (C2.out hno)
    have hqQ := hd (ofQ_no (wd := wd) (xs := xs) (by rw [hqC.out]; decide))
    clear C0 C2 C3
    replace hB := old_alloc (old_trans hB hb2) (.cells #[.slice none 0 0] 25)
    replace M := (M.later hb2).alloc (.cells #[.slice none 0 0] 25)
    have m9 := (M.later (Below.refl _ _)).2.2
    obtain ⟨m0, m1, m2⟩ := id M
    replace M := M.set (.slice none 0 0)
    go_wp2
    refine bodyPost_ret (v := .tuple #[.agg #[.slice none 0 0], .iface 46 (.agg #[.int .i64 2])]) ?_ rfl ⟨⟨none, 0, by rw [hqQ.out, hqC.out]; rfl, by rw [hqQ.out]; exact OB0 _ _⟩, hB.setCell (p := ⟨w.heap.size + 1 + 1, 0, none⟩) (by show w.heap.size ≤ w.heap.size + 1 + 1; omega) _⟩
    simp [results, Tryd.results15, go_sem, M.1]
  replace hB := old_trans hB hb2
  replace M := M.later hb2
  replace K := K.later hb2
  have s2 := hb2.size
  have O : OB w2 w.heap.size (some ⟨g, 0, none⟩) n (madeL n (ofX wd xs) (ofY wd xs)) := OB.of_row hfit (by rw [madeL_length]; omega) (by unfold maxLen; omega) (Nat.le_trans (by omega) hgb) hrow
  have hgM : g ≠ w.heap.size + 1 + 1 := by omega
  clear hrow k0 k1 k2' l0 l1 l2 hR1 L
  have BK := hd (fun W (h : InRow W (some ⟨g, 0, none⟩) n n (madeL n (ofX wd xs) (ofY wd xs))) => iBoxOk wd (some ⟨g, 0, none⟩) n n (madeL n (ofX wd xs) (ofY wd xs)) W h)
  have hml := madeL_length n (ofX wd xs) (ofY wd xs)
  have X : Cel1 (w2.alloc (.cells #[.slice (some ⟨g, 0, none⟩) n n] 25)) w2.heap.size (.slice (some ⟨g, 0, none⟩) n n) := Cel1.made _ _ rfl _ _
  replace hB := old_alloc hB (.cells #[.slice (some ⟨g, 0, none⟩) n n] 25)
  replace M := M.alloc (.cells #[.slice (some ⟨g, 0, none⟩) n n] 25)
  replace K := K.alloc (.cells #[.slice (some ⟨g, 0, none⟩) n n] 25)
  replace O := O.alloc (.cells #[.slice (some ⟨g, 0, none⟩) n n] 25)
  have RI := O.inRow
  rw [hml] at RI
  obtain ⟨k0, k1, k2'⟩ := id K
  obtain ⟨x0, x1, x2⟩ := id X
  have dK := Nat.ne_of_lt (Nat.lt_of_lt_of_le (show w.heap.size < w.heap.size + 1 + 1 by omega) (Nat.le_trans (Nat.le_of_lt s0) (Nat.le_trans s1 s2)))
  have dK' := Ne.symm dK
  go_wp2_with fail
  generalize hV : w2.alloc (.cells #[.slice (some ⟨g, 0, none⟩) n n] 25) = V at *
  clear hV
  refine (BK.out _ RI).mono ?_
  rintro e w3 ⟨rfl, hb3⟩
  replace hB := old_trans hB hb3
  replace M := M.later hb3
  replace X := X.later hb3
  replace O := O.later hb3
  have d1 : w2.heap.size ≠ w.heap.size + 1 + 1 := by omega
  have d2 := Ne.symm d1
  clear k0 k1 k2' x0 x1 x2 BK K RI hb3
  obtain ⟨m0, m1, m2⟩ := id M
  obtain ⟨x0, x1, x2⟩ := id X
  cases hr : okRow wd (madeL n (ofX wd xs) (ofY wd xs))
  · have hqC := hd (C3.out hall hr)
    have hqQ := hd (ofQ_no (wd := wd) (xs := xs) (by rw [hqC.out]; decide))
    clear C0 C2 C3
    replace M := M.set (.slice none 0 0)
    go_wp2
    refine bodyPost_ret (v := .tuple #[.agg #[.slice none 0 0], .iface 46 (.agg #[.int .i64 3])]) ?_ rfl ⟨⟨none, 0, by rw [hqQ.out, hqC.out]; rfl, by rw [hqQ.out]; exact OB0 _ _⟩, hB.setCell (p := ⟨w.heap.size + 1 + 1, 0, none⟩) (by show w.heap.size ≤ w.heap.size + 1 + 1; omega) _⟩
    simp [results, Tryd.results15, go_sem, M.1]
  · have hqC := hd (C0.out hall hr)
    have hqQ := hd (ofQ_ok hqC.out)
    clear C0 C2 C3
    replace M := M.set (.slice (some ⟨g, 0, none⟩) n n)
    go_wp2
    refine bodyPost_ret (v := .tuple #[.agg #[.slice (some ⟨g, 0, none⟩) n n], .nilIface]) ?_ rfl ⟨⟨some ⟨g, 0, none⟩, n, by rw [hqQ.out, hqC.out, ofl, hml]; rfl, by rw [hqQ.out, ofl]; exact O.set _ (fun q e => by injection e with e; subst e; exact hgM) _⟩, hB.setCell (p := ⟨w.heap.size + 1 + 1, 0, none⟩) (by show w.heap.size ≤ w.heap.size + 1 + 1; omega) _⟩
    simp [results, Tryd.results15, go_sem, M.1]
set_option maxHeartbeats 4000000 in
theorem iBoxOf (wd : Int) (a : Option Addr) (cap : Nat) (xs : List Int) (w : World) (hR : InU w a xs.length cap xs) (hE : ET w) :
    Calls Tryd.prog 6 #[.int .i64 wd, .slice a xs.length cap] w fun e w' => (∃ av cv, e = .returned (.tuple #[.agg #[.slice av (ofQ wd xs).length cv], .int .i64 (ofC wd xs)]) ∧ OB w' w.heap.size av cv (ofQ wd xs)) ∧ Below w.heap.size w w' := by
  have M : Cel1 (w.alloc (.cells #[.slice none 0 0] 25)) w.heap.size (.slice none 0 0) := Cel1.made w _ rfl _ _
  have hB : Below w.heap.size w (w.alloc (.cells #[.slice none 0 0] 25)) := old_alloc (Below.refl _ _) _
  have FR := hd (fun W (h : Below w.heap.size w W) => iBoxFrom wd a cap xs W (hR.old h))
  have s0 : w.heap.size < (w.alloc (.cells #[.slice none 0 0] 25)).heap.size := by simp
  obtain ⟨c, hc⟩ : ∃ c, ofC wd xs = c := ⟨_, rfl⟩
  have hq0 : Hid (c ≠ 0 → ofQ wd xs = []) := fun h => ofQ_no (by rw [hc]; exact h)
  rw [hc] at FR ⊢
  generalize ofQ wd xs = qs at *
  clear hc
  go_enter Tryd.func6, Tryd.ntmps6
  go_wp2_with fail
  generalize (w.alloc (.cells #[.slice none 0 0] 25)) = W0 at *
  refine (FR.out _ hB).mono ?_
  rintro e w1 ⟨⟨av, cv, rfl, O⟩, hb1⟩
  have s1 := hb1.size
  have hsep : Hid (∀ q, av = some q → q.block ≠ w.heap.size) := fun q e => by have := O.ge q e; omega
  replace O := O.mono (Nat.le_of_lt s0)
  replace hB := old_trans hB hb1
  replace M := M.later hb1
  have oge := O.lt
  have X : Cel1 (w1.alloc (.cells #[.slice av qs.length cv] 25)) w1.heap.size (.slice av qs.length cv) := Cel1.made _ _ rfl _ _
  replace hB := old_alloc hB (.cells #[.slice av qs.length cv] 25)
  replace M := M.alloc (.cells #[.slice av qs.length cv] 25)
  replace O := O.alloc (.cells #[.slice av qs.length cv] 25)
  have hE1 := hE.old hB
  unfold erV
  by_cases hc0 : c = 0
  · subst hc0
    rw [if_pos rfl]
    have hal : Below (w1.alloc (.cells #[.slice av qs.length cv] 25)).heap.size (w1.alloc (.cells #[.slice av qs.length cv] 25)) ((w1.alloc (.cells #[.slice av qs.length cv] 25)).alloc (.cells #[.int .i64 0] 46)) := old_alloc (Below.refl _ _) _
    replace hB := old_trans hB hal
    replace M := M.later hal
    replace X := X.later hal
    replace O := O.later hal
    go_wp2_with fail
    refine (as_nil _ _).mono ?_
    rintro e w2 ⟨rfl, rfl⟩
    obtain ⟨m0, m1, m2⟩ := id M
    obtain ⟨x0, x1, x2⟩ := id X
    replace M := M.set (.slice av qs.length cv)
    go_wp2
    refine bodyPost_ret (v := .tuple #[.agg #[.slice av qs.length cv], .int .i64 0]) ?_ rfl ⟨⟨_, _, rfl, O.set _ hsep.out _⟩, hB.setCell (p := ⟨w.heap.size, 0, none⟩) (by simp) _⟩
    simp [results, Tryd.results6, go_sem, M.1]
  · rw [if_neg hc0]
    have hqs := hd (hq0.out hc0)
    have AS := hd (as_box c (w1.alloc (.cells #[.slice av qs.length cv] 25)) (w1.heap.size + 1) (by simp) hE1)
    go_wp2_with fail
    generalize w1.alloc (.cells #[.slice av qs.length cv] 25) = V at *
    refine AS.out.mono ?_
    rintro e w2 ⟨rfl, cc, hb2⟩
    replace hB := old_trans hB hb2
    replace M := M.later hb2
    obtain ⟨m0, m1, m2⟩ := id M
    have d1 : w1.heap.size + 1 ≠ w.heap.size := by omega
    have d2 := Ne.symm d1
    replace M := M.set (.slice none 0 0)
    have F0 : ∀ W, OB W w.heap.size none 0 qs := fun W => by rw [hqs.out]; exact OB0 _ _
    have hl0 : Hid (qs.length = 0) := by show _ = _; rw [hqs.out]; rfl
    go_wp2_with fail
    go_region
    all_goals
      go_wp2
      refine bodyPost_ret (v := .tuple #[.agg #[.slice none 0 0], .int .i64 c]) ?_ rfl ⟨⟨none, 0, by rw [hl0.out], F0 _⟩, (by first | exact hB.setCell (p := ⟨w.heap.size, 0, none⟩) (Nat.le_refl _) _ | exact (Below.drew hB).setCell (p := ⟨w.heap.size, 0, none⟩) (Nat.le_refl _) _)⟩
      simp [results, Tryd.results6, go_sem, M.1]
end Go.Proofs.YtekbhkklaogmnaaDoor
