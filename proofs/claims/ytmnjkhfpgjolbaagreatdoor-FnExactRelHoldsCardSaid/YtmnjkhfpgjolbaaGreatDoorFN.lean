/- Fractions with the other sign: the specification. Conditions: digits, 1024 at most. -/
import Derived.Test.YtmnjkhfpgjolbaaGreatDoorFQ
namespace Go.Proofs.YtmnjkhfpgjolbaaGreatDoor
open Go.RowKit
set_option linter.unusedVariables false
set_option maxRecDepth 100000

theorem resNegS {W : World} {b : Nat} {v0 v1 v2 : Value} {tmps : Array Value} (h : Cel3 W b v0 v1 v2) (ht : tmps[2]? = some (.pointer (some ⟨b, 0, none⟩))) : (results Tryz.f18 tmps).run Tryz.prog W = .ok (.agg #[v0, v1, v2]) W := by
  obtain ⟨h1, ⟨a0, a1, a2⟩, -⟩ := h
  simp [results, Tryz.results18, go_sem, a0, a1, a2, ht]
set_option maxHeartbeats 8000000 in
theorem sNegP (a b : Option Addr) (la lb ca cb : Nat) (xs ys : List Int) (w : World) (hA : InI w a la ca xs) (hB : InI w b lb cb ys) (dx : digs xs) (dy : digs ys) (l1 : la ≤ 1024) (l2 : lb ≤ 1024) :
    Calls Tryz.prog 18 #[.agg #[.bool false, .slice a la ca, .slice b lb cb]] w fun e w' => (∃ av cv av' cv', e = .returned (.agg #[.bool (decide (0 < la)), .slice av (natL (val xs)).length cv, .slice av' (natL (val ys)).length cv']) ∧ OI w' w.heap.size av cv (natL (val xs)) ∧ OI w' w.heap.size av' cv' (natL (val ys)) ∧ Sep av av') ∧ Below w.heap.size w w' := by
  have e0 : Below w.heap.size w ((w.alloc (.cells #[.bool false, .slice a la ca, .slice b lb cb] 27)).alloc (.cells #[.bool false, .slice none 0 0, .slice none 0 0] 27)) := (by repeat (first | exact Below.refl _ _ | refine Below.drew ?_ | refine old_alloc ?_ _ | refine old_trans ?_ (by assumption)))
  have K1 := (Cel3.new w (.bool false) (.slice a la ca) (.slice b lb cb) 27).old (old_alloc (Below.refl _ _) (.cells #[.bool false, .slice none 0 0, .slice none 0 0] 27))
  have K3 := Cel3.new (w.alloc (.cells #[.bool false, .slice a la ca, .slice b lb cb] 27)) (.bool false) (.slice none 0 0) (.slice none 0 0) 27
  simp only [World.size_alloc] at K3
  have T1 := hd (fun w' (h : Below w.heap.size w w') => sTrim a la ca xs w' (hA.old h) dx (by omega))
  have T2 := hd (fun w' (h : Below w.heap.size w w') => sTrim b lb cb ys w' (hB.old h) dy (by omega))
  have hlA := hA.len
  clear hA hB dx dy l1 l2
  generalize natL (val xs) = tl at *
  generalize natL (val ys) = ul at *
  go_enter Tryz.func18, Tryz.ntmps18
  go_wp2_with fail
  generalize hW1 : (w.alloc (.cells #[.bool false, .slice a la ca, .slice b lb cb] 27)).alloc (.cells #[.bool false, .slice none 0 0, .slice none 0 0] 27) = w1 at *
  clear hW1
  have hk : w1.cell? ⟨w.heap.size, 0, none⟩ = some (.bool false) ∧ w1.cell? ⟨w.heap.size, 1, none⟩ = some (.slice a la ca) ∧ w1.cell? ⟨w.heap.size, 2, none⟩ = some (.slice b lb cb) := ⟨K1.c0, K1.c1, K1.c2⟩
  obtain ⟨k0, k1, k2⟩ := id hk
  have U1 := hd (fun w' (hS : w'.cell? ⟨w.heap.size, 0, none⟩ = some (.bool false) ∧ w'.cell? ⟨w.heap.size, 1, none⟩ = some (.slice a la ca) ∧ w'.cell? ⟨w.heap.size, 2, none⟩ = some (.slice b lb cb)) (h : Below w1.heap.size w1 w') => (T1.out w' (old_trans e0 h)).mono (fun e w'' (k : _ ∧ _) => (⟨k, three_old hS k.2⟩ : (_ ∧ _) ∧ (w''.cell? ⟨w.heap.size, 0, none⟩ = some (.bool false) ∧ w''.cell? ⟨w.heap.size, 1, none⟩ = some (.slice a la ca) ∧ w''.cell? ⟨w.heap.size, 2, none⟩ = some (.slice b lb cb)))))
  have U2 := hd (fun w' (hS : w'.cell? ⟨w.heap.size, 0, none⟩ = some (.bool false) ∧ w'.cell? ⟨w.heap.size, 1, none⟩ = some (.slice a la ca) ∧ w'.cell? ⟨w.heap.size, 2, none⟩ = some (.slice b lb cb)) (h : Below w1.heap.size w1 w') => (T2.out w' (old_trans e0 h)).mono (fun e w'' (k : _ ∧ _) => (⟨k, three_old hS k.2⟩ : (_ ∧ _) ∧ (w''.cell? ⟨w.heap.size, 0, none⟩ = some (.bool false) ∧ w''.cell? ⟨w.heap.size, 1, none⟩ = some (.slice a la ca) ∧ w''.cell? ⟨w.heap.size, 2, none⟩ = some (.slice b lb cb)))))
  have ne1 : w.heap.size + 1 ≠ w.heap.size := by omega
  clear T1 T2 K1
  have hdec : (decide (0 < la) = true ∧ 0 < (la : Int)) ∨ (decide (0 < la) = false ∧ (la : Int) = 0) := by
    by_cases h : 0 < la
    · exact .inl ⟨by simpa using h, by omega⟩
    · exact .inr ⟨by simpa using h, by omega⟩
  go_region_held3 (fun w' => w'.cell? ⟨w.heap.size, 0, none⟩ = some (.bool false) ∧ w'.cell? ⟨w.heap.size, 1, none⟩ = some (.slice a la ca) ∧ w'.cell? ⟨w.heap.size, 2, none⟩ = some (.slice b lb cb)) (go_keep) (first | (go_at_call 31; with_reducible refine (U1.out _ (by assumption) (by repeat (first | exact Below.refl _ _ | refine Below.drew ?_ | refine old_trans ?_ (by assumption)))).mono ?_; rintro e w4 ⟨⟨⟨avT, cvT, rfl, hT1⟩, hb4⟩, hc4⟩) | (go_at_call 31; with_reducible refine (U2.out _ (by assumption) (by repeat (first | exact Below.refl _ _ | refine Below.drew ?_ | refine old_trans ?_ (by assumption)))).mono ?_; rintro e w5 ⟨⟨⟨avU, cvU, rfl, hT2⟩, hb5⟩, hc5⟩; have K5 := (K3.drew.old hb4).old hb5; have n2 := K5.c0; have n3 := K5.c1; have n4 := K5.c2; have n5 := K5.f0; have n6 := K5.f1; have n7 := K5.f2))
  all_goals
    have hs0 : w.heap.size + 1 < w1.drew.heap.size := K3.1
    have hs1 : w.heap.size + 1 < w4.heap.size := Nat.lt_of_lt_of_le hs0 hb4.size
    have o1 := (oi_set3 (v0 := .bool (decide (0 < la))) (v1 := .slice avT tl.length cvT) (v2 := .slice avU ul.length cvU) (hT1.later hb5) hs0).mono (show w.heap.size ≤ _ by omega)
    have o2 := (oi_set3 (v0 := .bool (decide (0 < la))) (v1 := .slice avT tl.length cvT) (v2 := .slice avU ul.length cvU) hT2 hs1).mono (show w.heap.size ≤ _ by omega)
    have hsep := OI.sepOf hT1 hT2 (Nat.le_refl _)
    have hBF : Below w.heap.size w w5 := old_trans (old_trans e0.drew hb4) hb5
    have hK := K5.setAll (.bool (decide (0 < la))) (.slice avT tl.length cvT) (.slice avU ul.length cvU)
    clear hT1 hT2
    go_wp2
    exact bodyPost_ret (resNegS hK rfl) rfl ⟨⟨_, _, _, _, rfl, o1, o2, hsep⟩, below_set (below_set (below_set hBF (by omega) _) (by omega) _) (by omega) _⟩
set_option maxHeartbeats 8000000 in
theorem sNegN (a b : Option Addr) (la lb ca cb : Nat) (xs ys : List Int) (w : World) (hA : InI w a la ca xs) (hB : InI w b lb cb ys) (dx : digs xs) (dy : digs ys) (l1 : la ≤ 1024) (l2 : lb ≤ 1024) :
    Calls Tryz.prog 18 #[.agg #[.bool true, .slice a la ca, .slice b lb cb]] w fun e w' => (∃ av cv av' cv', e = .returned (.agg #[.bool false, .slice av (natL (val xs)).length cv, .slice av' (natL (val ys)).length cv']) ∧ OI w' w.heap.size av cv (natL (val xs)) ∧ OI w' w.heap.size av' cv' (natL (val ys)) ∧ Sep av av') ∧ Below w.heap.size w w' := by
  have e0 : Below w.heap.size w ((w.alloc (.cells #[.bool true, .slice a la ca, .slice b lb cb] 27)).alloc (.cells #[.bool false, .slice none 0 0, .slice none 0 0] 27)) := (by repeat (first | exact Below.refl _ _ | refine Below.drew ?_ | refine old_alloc ?_ _ | refine old_trans ?_ (by assumption)))
  have K1 := (Cel3.new w (.bool true) (.slice a la ca) (.slice b lb cb) 27).old (old_alloc (Below.refl _ _) (.cells #[.bool false, .slice none 0 0, .slice none 0 0] 27))
  have K3 := Cel3.new (w.alloc (.cells #[.bool true, .slice a la ca, .slice b lb cb] 27)) (.bool false) (.slice none 0 0) (.slice none 0 0) 27
  simp only [World.size_alloc] at K3
  have T1 := hd (fun w' (h : Below w.heap.size w w') => sTrim a la ca xs w' (hA.old h) dx (by omega))
  have T2 := hd (fun w' (h : Below w.heap.size w w') => sTrim b lb cb ys w' (hB.old h) dy (by omega))
  have hlA := hA.len
  clear hA hB dx dy l1 l2
  generalize natL (val xs) = tl at *
  generalize natL (val ys) = ul at *
  go_enter Tryz.func18, Tryz.ntmps18
  go_wp2_with fail
  generalize hW1 : (w.alloc (.cells #[.bool true, .slice a la ca, .slice b lb cb] 27)).alloc (.cells #[.bool false, .slice none 0 0, .slice none 0 0] 27) = w1 at *
  clear hW1
  have hk : w1.cell? ⟨w.heap.size, 0, none⟩ = some (.bool true) ∧ w1.cell? ⟨w.heap.size, 1, none⟩ = some (.slice a la ca) ∧ w1.cell? ⟨w.heap.size, 2, none⟩ = some (.slice b lb cb) := ⟨K1.c0, K1.c1, K1.c2⟩
  obtain ⟨k0, k1, k2⟩ := id hk
  have U1 := hd (fun w' (hS : w'.cell? ⟨w.heap.size, 0, none⟩ = some (.bool true) ∧ w'.cell? ⟨w.heap.size, 1, none⟩ = some (.slice a la ca) ∧ w'.cell? ⟨w.heap.size, 2, none⟩ = some (.slice b lb cb)) (h : Below w1.heap.size w1 w') => (T1.out w' (old_trans e0 h)).mono (fun e w'' (k : _ ∧ _) => (⟨k, three_old hS k.2⟩ : (_ ∧ _) ∧ (w''.cell? ⟨w.heap.size, 0, none⟩ = some (.bool true) ∧ w''.cell? ⟨w.heap.size, 1, none⟩ = some (.slice a la ca) ∧ w''.cell? ⟨w.heap.size, 2, none⟩ = some (.slice b lb cb)))))
  have U2 := hd (fun w' (hS : w'.cell? ⟨w.heap.size, 0, none⟩ = some (.bool true) ∧ w'.cell? ⟨w.heap.size, 1, none⟩ = some (.slice a la ca) ∧ w'.cell? ⟨w.heap.size, 2, none⟩ = some (.slice b lb cb)) (h : Below w1.heap.size w1 w') => (T2.out w' (old_trans e0 h)).mono (fun e w'' (k : _ ∧ _) => (⟨k, three_old hS k.2⟩ : (_ ∧ _) ∧ (w''.cell? ⟨w.heap.size, 0, none⟩ = some (.bool true) ∧ w''.cell? ⟨w.heap.size, 1, none⟩ = some (.slice a la ca) ∧ w''.cell? ⟨w.heap.size, 2, none⟩ = some (.slice b lb cb)))))
  have ne1 : w.heap.size + 1 ≠ w.heap.size := by omega
  clear T1 T2 K1
  refine wp_region_held_drew (S := fun w' => w'.cell? ⟨w.heap.size, 0, none⟩ = some (.bool true) ∧ w'.cell? ⟨w.heap.size, 1, none⟩ = some (.slice a la ca) ∧ w'.cell? ⟨w.heap.size, 2, none⟩ = some (.slice b lb cb)) rfl hk ?_
  intro hS
  refine wpAnyH_take (i := 0) (v := ?_) rfl (by kernel_rfl) (by kernel_rfl) (by kernel_rfl) (fun _ _ _ h => h) (Or.inl ⟨by rfl, ?_⟩) hS ?_
  rotate_left
  · intro w' hS'; obtain ⟨s0, s1, s2⟩ := hS'; go_simp <;> with_reducible rfl
  refine wpAnyH_take (i := 1) (v := ?_) rfl (by kernel_rfl) (by kernel_rfl) (by kernel_rfl) (fun _ _ _ h => h) (Or.inl ⟨by rfl, ?_⟩) hS ?_
  rotate_left
  · intro w' hS'; obtain ⟨s0, s1, s2⟩ := hS'; go_simp <;> with_reducible rfl
  refine wpAnyH_take (i := 2) (v := ?_) rfl (by kernel_rfl) (by kernel_rfl) (by kernel_rfl) (fun _ _ _ h => h) (Or.inl ⟨by rfl, ?_⟩) hS ?_
  rotate_left
  · intro w' hS'; obtain ⟨s0, s1, s2⟩ := hS'; go_simp <;> with_reducible rfl
  refine wpAnyH_take (i := 3) (v := ?_) rfl (by kernel_rfl) (by kernel_rfl) (by kernel_rfl) (fun _ _ _ h => h) (Or.inl ⟨by rfl, ?_⟩) hS ?_
  rotate_left
  · intro w' hS'; obtain ⟨s0, s1, s2⟩ := hS'; go_simp <;> with_reducible rfl
  refine wpAnyH_take (i := 4) (v := undef) rfl (by kernel_rfl) (by kernel_rfl) (by kernel_rfl) (fun _ _ _ h => h) (Or.inr ⟨by rfl, rfl⟩) hS ?_
  refine wpAnyH_take (i := 5) (v := undef) rfl (by kernel_rfl) (by kernel_rfl) (by kernel_rfl) (fun _ _ _ h => h) (Or.inr ⟨by rfl, rfl⟩) hS ?_
  refine wpAnyH_take (i := 6) (v := undef) rfl (by kernel_rfl) (by kernel_rfl) (by kernel_rfl) (fun _ _ _ h => h) (Or.inr ⟨by rfl, rfl⟩) hS ?_
  refine wpAnyH_take (i := 7) (v := undef) rfl (by kernel_rfl) (by kernel_rfl) (by kernel_rfl) (fun _ _ _ h => h) (Or.inr ⟨by rfl, rfl⟩) hS ?_
  refine wpAnyH_take (i := 8) (v := ?_) rfl (by kernel_rfl) (by kernel_rfl) (by kernel_rfl) (fun _ _ _ h => h) (Or.inl ⟨by rfl, ?_⟩) hS ?_
  rotate_left
  · intro w' hS'; obtain ⟨s0, s1, s2⟩ := hS'; go_simp <;> with_reducible rfl
  refine wpAnyH_take (i := 9) (v := ?_) rfl (by kernel_rfl) (by kernel_rfl) (by kernel_rfl) (fun _ _ _ h => h) (Or.inl ⟨by rfl, ?_⟩) hS ?_
  rotate_left
  · intro w' hS'; obtain ⟨s0, s1, s2⟩ := hS'; go_simp <;> with_reducible rfl
  refine wpAnyH_take (i := 10) (v := ?_) rfl (by kernel_rfl) (by kernel_rfl) (by kernel_rfl) (fun _ _ _ h => h) (Or.inl ⟨by rfl, ?_⟩) hS ?_
  rotate_left
  · intro w' hS'; obtain ⟨s0, s1, s2⟩ := hS'; go_simp <;> with_reducible rfl
  refine wpAnyH_take (i := 12) (v := ?_) rfl (by kernel_rfl) (by kernel_rfl) (by kernel_rfl) (fun _ _ _ h => h) (Or.inl ⟨by rfl, ?_⟩) hS ?_
  rotate_left
  · intro w' hS'; obtain ⟨s0, s1, s2⟩ := hS'; go_simp <;> with_reducible rfl
  refine wpAnyH_take (i := 13) (v := ?_) rfl (by kernel_rfl) (by kernel_rfl) (by kernel_rfl) (fun _ _ _ h => h) (Or.inl ⟨by rfl, ?_⟩) hS ?_
  rotate_left
  · intro w' hS'; obtain ⟨s0, s1, s2⟩ := hS'; go_simp <;> with_reducible rfl
  refine wpAnyH_ready (rs := [11]) (by kernel_rfl) (by simp) ?_
  refine AllReadyH.cons rfl (fun K hK => ?_) AllReadyH.nil
  go_simp
  refine (U1.out _ hS (by repeat (first | exact Below.refl _ _ | refine Below.drew ?_ | refine old_trans ?_ (by assumption)))).mono ?_
  rintro e w4 ⟨⟨⟨avT, cvT, rfl, hT1⟩, hb4⟩, hc4⟩
  refine hK.out _ _ hc4 ?_
  intro hS4
  clear hK K
  refine wpAnyH_ready (rs := [14]) (by kernel_rfl) (by simp) ?_
  refine AllReadyH.cons rfl (fun K hK => ?_) AllReadyH.nil
  go_simp
  refine (U2.out _ hS4 (by repeat (first | exact Below.refl _ _ | refine Below.drew ?_ | refine old_trans ?_ (by assumption)))).mono ?_
  rintro e w5 ⟨⟨⟨avU, cvU, rfl, hT2⟩, hb5⟩, hc5⟩
  refine hK.out _ _ hc5 ?_
  intro hS5
  clear hK K
  have K5 := (K3.drew.old hb4).old hb5
  have n2 := K5.c0
  have n3 := K5.c1
  have n4 := K5.c2
  have n5 := K5.f0
  have n6 := K5.f1
  have n7 := K5.f2
  refine wpAnyH_take (i := 15) (v := ?_) rfl (by kernel_rfl) (by kernel_rfl) (by kernel_rfl) (fun _ _ _ h => h) (Or.inl ⟨by rfl, ?_⟩) hS5 ?_
  rotate_left
  · intro w' hS'; obtain ⟨s0, s1, s2⟩ := hS'; go_simp <;> with_reducible rfl
  refine wpAnyH_ready (rs := [16]) (by kernel_rfl) (by simp) ?_
  refine AllReadyH.cons rfl (fun K hK => ?_) AllReadyH.nil
  go_simp
  obtain ⟨s0, s1, s2⟩ := id hS5
  refine hK.out _ _ ?_ ?_
  · simp [*, World.cell?_setCell_far]
  intro hS6
  clear hK K
  refine wpAnyH_done (by kernel_rfl) ?_ _
  have hs0 : w.heap.size + 1 < w1.drew.heap.size := K3.1
  have hs1 : w.heap.size + 1 < w4.heap.size := Nat.lt_of_lt_of_le hs0 hb4.size
  have o1 := (oi_set3 (v0 := .bool false) (v1 := .slice avT tl.length cvT) (v2 := .slice avU ul.length cvU) (hT1.later hb5) hs0).mono (show w.heap.size ≤ _ by omega)
  have o2 := (oi_set3 (v0 := .bool false) (v1 := .slice avT tl.length cvT) (v2 := .slice avU ul.length cvU) hT2 hs1).mono (show w.heap.size ≤ _ by omega)
  have hsep := OI.sepOf hT1 hT2 (Nat.le_refl _)
  have hBF : Below w.heap.size w w5 := old_trans (old_trans e0.drew hb4) hb5
  have hK9 := K5.setAll (.bool false) (.slice avT tl.length cvT) (.slice avU ul.length cvU)
  clear hT1 hT2
  go_wp2
  exact bodyPost_ret (resNegS hK9 rfl) rfl ⟨⟨_, _, _, _, rfl, o1, o2, hsep⟩, below_set (below_set (below_set hBF (by omega) _) (by omega) _) (by omega) _⟩
/-- both signs -/
theorem sNeg (bl : Bool) (a b : Option Addr) (la lb ca cb : Nat) (xs ys : List Int) (w : World) (hA : InI w a la ca xs) (hB : InI w b lb cb ys) (dx : digs xs) (dy : digs ys) (tx : topped xs) (l1 : la ≤ 1024) (l2 : lb ≤ 1024) :
    Calls Tryz.prog 18 #[.agg #[.bool bl, .slice a la ca, .slice b lb cb]] w fun e w' => (∃ av cv av' cv', e = .returned (.agg #[.bool (!bl && decide (val xs ≠ 0)), .slice av (natL (val xs)).length cv, .slice av' (natL (val ys)).length cv']) ∧ OI w' w.heap.size av cv (natL (val xs)) ∧ OI w' w.heap.size av' cv' (natL (val ys)) ∧ Sep av av') ∧ Below w.heap.size w w' := by
  have hd0 : decide (0 < la) = decide (val xs ≠ 0) := by
    have hp := hA.1
    have e := natL_canon dx tx
    by_cases h : val xs = 0
    · rw [h, natL_zero] at e
      rw [decide_eq_false (by rw [← hp, ← e]; simp), decide_eq_false (by simpa using h)]
    · have := natL_length_pos (Nat.pos_of_ne_zero h)
      rw [e] at this
      rw [decide_eq_true (by omega), decide_eq_true h]
  cases bl
  · rw [← hd0]
    exact sNegP a b la lb ca cb xs ys w hA hB dx dy l1 l2
  · exact sNegN a b la lb ca cb xs ys w hA hB dx dy l1 l2
end Go.Proofs.YtmnjkhfpgjolbaaGreatDoor
