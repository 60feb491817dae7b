/- Fractions with the other sign: the specification. Conditions: digits, 1024 at most. -/
import Derived.Test.YtgoffjpfddmhhaaGreatDoorPK18
import Derived.Test.YtgoffjpfddmhhaaGreatDoorPK19
import Derived.Test.YtgoffjpfddmhhaaGreatDoorPK17
namespace Go.Proofs.YtgoffjpfddmhhaaGreatDoor
open Go.RowKit
set_option linter.unusedVariables false
set_option maxRecDepth 100000

theorem resNegS {W : World} {b : Nat} {v0 v1 v2 : Value} {tmps : Array Value} (h : Cel3 W b v0 v1 v2) (ht : tmps[2]? = some (.pointer (some ⟨b, 0, none⟩))) : (results Tryz.f43 tmps).run Tryz.prog W = .ok (.agg #[v0, v1, v2]) W := by
  obtain ⟨h1, ⟨a0, a1, a2⟩, -⟩ := h
  simp [results, Tryz.results43, go_sem, a0, a1, a2, ht]
set_option maxHeartbeats 8000000 in
theorem sNegP (a b : Option Addr) (la lb ca cb : Nat) (xs ys : List Int) (w : World) (hA : InI w a la ca xs) (hB : InI w b lb cb ys) (dx : digs xs) (dy : digs ys) (l1 : la ≤ 1024) (l2 : lb ≤ 1024) :
    Calls Tryz.prog 43 #[.agg #[.bool false, .slice a la ca, .slice b lb cb]] w fun e w' => (∃ av cv av' cv', e = .returned (.agg #[.bool (decide (0 < la)), .slice av (natL (val xs)).length cv, .slice av' (natL (val ys)).length cv']) ∧ OI w' w.heap.size av cv (natL (val xs)) ∧ OI w' w.heap.size av' cv' (natL (val ys)) ∧ Sep av av') ∧ Below w.heap.size w w' := by
  have e0 : Below w.heap.size w ((w.alloc (.cells #[.bool false, .slice a la ca, .slice b lb cb] 25)).alloc (.cells #[.bool false, .slice none 0 0, .slice none 0 0] 25)) := (by repeat (first | exact Below.refl _ _ | refine Below.drew ?_ | refine old_alloc ?_ _ | refine old_trans ?_ (by assumption)))
  have K1 := (Cel3.new w (.bool false) (.slice a la ca) (.slice b lb cb) 25).old (old_alloc (Below.refl _ _) (.cells #[.bool false, .slice none 0 0, .slice none 0 0] 25))
  have K3 := Cel3.new (w.alloc (.cells #[.bool false, .slice a la ca, .slice b lb cb] 25)) (.bool false) (.slice none 0 0) (.slice none 0 0) 25
  simp only [World.size_alloc] at K3
  have T1 := hd (fun w' (h : Below w.heap.size w w') => sTrim a la ca xs w' (hA.old h) dx (by omega))
  have T2 := hd (fun w' (h : Below w.heap.size w w') => sTrim b lb cb ys w' (hB.old h) dy (by omega))
  have hlA := hA.len
  clear hA hB dx dy l1 l2
  generalize natL (val xs) = tl at *
  generalize natL (val ys) = ul at *
  go_enter Tryz.func43, Tryz.ntmps43
  go_wp2_with fail
  generalize hW1 : (w.alloc (.cells #[.bool false, .slice a la ca, .slice b lb cb] 25)).alloc (.cells #[.bool false, .slice none 0 0, .slice none 0 0] 25) = w1 at *
  clear hW1
  have hk : w1.cell? ⟨w.heap.size, 0, none⟩ = some (.bool false) ∧ w1.cell? ⟨w.heap.size, 1, none⟩ = some (.slice a la ca) ∧ w1.cell? ⟨w.heap.size, 2, none⟩ = some (.slice b lb cb) := ⟨K1.c0, K1.c1, K1.c2⟩
  obtain ⟨k0, k1, k2⟩ := id hk
  have U1 := hd (fun w' (hS : w'.cell? ⟨w.heap.size, 0, none⟩ = some (.bool false) ∧ w'.cell? ⟨w.heap.size, 1, none⟩ = some (.slice a la ca) ∧ w'.cell? ⟨w.heap.size, 2, none⟩ = some (.slice b lb cb)) (h : Below w1.heap.size w1 w') => (T1.out w' (old_trans e0 h)).mono (fun e w'' (k : _ ∧ _) => (⟨k, three_old hS k.2⟩ : (_ ∧ _) ∧ (w''.cell? ⟨w.heap.size, 0, none⟩ = some (.bool false) ∧ w''.cell? ⟨w.heap.size, 1, none⟩ = some (.slice a la ca) ∧ w''.cell? ⟨w.heap.size, 2, none⟩ = some (.slice b lb cb)))))
  have U2 := hd (fun w' (hS : w'.cell? ⟨w.heap.size, 0, none⟩ = some (.bool false) ∧ w'.cell? ⟨w.heap.size, 1, none⟩ = some (.slice a la ca) ∧ w'.cell? ⟨w.heap.size, 2, none⟩ = some (.slice b lb cb)) (h : Below w1.heap.size w1 w') => (T2.out w' (old_trans e0 h)).mono (fun e w'' (k : _ ∧ _) => (⟨k, three_old hS k.2⟩ : (_ ∧ _) ∧ (w''.cell? ⟨w.heap.size, 0, none⟩ = some (.bool false) ∧ w''.cell? ⟨w.heap.size, 1, none⟩ = some (.slice a la ca) ∧ w''.cell? ⟨w.heap.size, 2, none⟩ = some (.slice b lb cb)))))
  have ne1 : w.heap.size + 1 ≠ w.heap.size := by omega
  clear T1 T2 K1
  have hdec : (decide (0 < la) = true ∧ 0 < (la : Int)) ∨ (decide (0 < la) = false ∧ (la : Int) = 0) := by
    by_cases h : 0 < la
    · exact .inl ⟨by simpa using h, by omega⟩
    · exact .inr ⟨by simpa using h, by omega⟩
  go_region_held3 (fun w' => w'.cell? ⟨w.heap.size, 0, none⟩ = some (.bool false) ∧ w'.cell? ⟨w.heap.size, 1, none⟩ = some (.slice a la ca) ∧ w'.cell? ⟨w.heap.size, 2, none⟩ = some (.slice b lb cb)) (go_keep) (first | (go_at_call 74; with_reducible refine (U1.out _ (by assumption) (by repeat (first | exact Below.refl _ _ | refine Below.drew ?_ | refine old_trans ?_ (by assumption)))).mono ?_; rintro e w4 ⟨⟨⟨avT, cvT, rfl, hT1⟩, hb4⟩, hc4⟩) | (go_at_call 74; with_reducible refine (U2.out _ (by assumption) (by repeat (first | exact Below.refl _ _ | refine Below.drew ?_ | refine old_trans ?_ (by assumption)))).mono ?_; rintro e w5 ⟨⟨⟨avU, cvU, rfl, hT2⟩, hb5⟩, hc5⟩; have K5 := (K3.drew.old hb4).old hb5; have n2 := K5.c0; have n3 := K5.c1; have n4 := K5.c2; have n5 := K5.f0; have n6 := K5.f1; have n7 := K5.f2))
  all_goals
    have hs0 : w.heap.size + 1 < w1.drew.heap.size := K3.1
    have hs1 : w.heap.size + 1 < w4.heap.size := Nat.lt_of_lt_of_le hs0 hb4.size
    have o1 := (oi_set3 (v0 := .bool (decide (0 < la))) (v1 := .slice avT tl.length cvT) (v2 := .slice avU ul.length cvU) (hT1.later hb5) hs0).mono (show w.heap.size ≤ _ by omega)
    have o2 := (oi_set3 (v0 := .bool (decide (0 < la))) (v1 := .slice avT tl.length cvT) (v2 := .slice avU ul.length cvU) hT2 hs1).mono (show w.heap.size ≤ _ by omega)
    have hsep := OI.sepOf hT1 hT2 (Nat.le_refl _)
    have hBF : Below w.heap.size w w5 := old_trans (old_trans e0.drew hb4) hb5
    have hK := K5.setAll (.bool (decide (0 < la))) (.slice avT tl.length cvT) (.slice avU ul.length cvU)
    clear hT1 hT2
    go_wp2
    exact bodyPost_ret (resNegS hK rfl) rfl ⟨⟨_, _, _, _, rfl, o1, o2, hsep⟩, below_set (below_set (below_set hBF (by omega) _) (by omega) _) (by omega) _⟩
set_option maxHeartbeats 8000000 in
theorem sNegN (a b : Option Addr) (la lb ca cb : Nat) (xs ys : List Int) (w : World) (hA : InI w a la ca xs) (hB : InI w b lb cb ys) (dx : digs xs) (dy : digs ys) (l1 : la ≤ 1024) (l2 : lb ≤ 1024) :
    Calls Tryz.prog 43 #[.agg #[.bool true, .slice a la ca, .slice b lb cb]] w fun e w' => (∃ av cv av' cv', e = .returned (.agg #[.bool false, .slice av (natL (val xs)).length cv, .slice av' (natL (val ys)).length cv']) ∧ OI w' w.heap.size av cv (natL (val xs)) ∧ OI w' w.heap.size av' cv' (natL (val ys)) ∧ Sep av av') ∧ Below w.heap.size w w' := by
  have e0 : Below w.heap.size w ((w.alloc (.cells #[.bool true, .slice a la ca, .slice b lb cb] 25)).alloc (.cells #[.bool false, .slice none 0 0, .slice none 0 0] 25)) := (by repeat (first | exact Below.refl _ _ | refine Below.drew ?_ | refine old_alloc ?_ _ | refine old_trans ?_ (by assumption)))
  have K1 := (Cel3.new w (.bool true) (.slice a la ca) (.slice b lb cb) 25).old (old_alloc (Below.refl _ _) (.cells #[.bool false, .slice none 0 0, .slice none 0 0] 25))
  have K3 := Cel3.new (w.alloc (.cells #[.bool true, .slice a la ca, .slice b lb cb] 25)) (.bool false) (.slice none 0 0) (.slice none 0 0) 25
  simp only [World.size_alloc] at K3
  have T1 := hd (fun w' (h : Below w.heap.size w w') => sTrim a la ca xs w' (hA.old h) dx (by omega))
  have T2 := hd (fun w' (h : Below w.heap.size w w') => sTrim b lb cb ys w' (hB.old h) dy (by omega))
  have hlA := hA.len
  clear hA hB dx dy l1 l2
  generalize natL (val xs) = tl at *
  generalize natL (val ys) = ul at *
  go_enter Tryz.func43, Tryz.ntmps43
  go_wp2_with fail
  generalize hW1 : (w.alloc (.cells #[.bool true, .slice a la ca, .slice b lb cb] 25)).alloc (.cells #[.bool false, .slice none 0 0, .slice none 0 0] 25) = w1 at *
  clear hW1
  have hk : w1.cell? ⟨w.heap.size, 0, none⟩ = some (.bool true) ∧ w1.cell? ⟨w.heap.size, 1, none⟩ = some (.slice a la ca) ∧ w1.cell? ⟨w.heap.size, 2, none⟩ = some (.slice b lb cb) := ⟨K1.c0, K1.c1, K1.c2⟩
  obtain ⟨k0, k1, k2⟩ := id hk
  have U1 := hd (fun w' (hS : w'.cell? ⟨w.heap.size, 0, none⟩ = some (.bool true) ∧ w'.cell? ⟨w.heap.size, 1, none⟩ = some (.slice a la ca) ∧ w'.cell? ⟨w.heap.size, 2, none⟩ = some (.slice b lb cb)) (h : Below w1.heap.size w1 w') => (T1.out w' (old_trans e0 h)).mono (fun e w'' (k : _ ∧ _) => (⟨k, three_old hS k.2⟩ : (_ ∧ _) ∧ (w''.cell? ⟨w.heap.size, 0, none⟩ = some (.bool true) ∧ w''.cell? ⟨w.heap.size, 1, none⟩ = some (.slice a la ca) ∧ w''.cell? ⟨w.heap.size, 2, none⟩ = some (.slice b lb cb)))))
  have U2 := hd (fun w' (hS : w'.cell? ⟨w.heap.size, 0, none⟩ = some (.bool true) ∧ w'.cell? ⟨w.heap.size, 1, none⟩ = some (.slice a la ca) ∧ w'.cell? ⟨w.heap.size, 2, none⟩ = some (.slice b lb cb)) (h : Below w1.heap.size w1 w') => (T2.out w' (old_trans e0 h)).mono (fun e w'' (k : _ ∧ _) => (⟨k, three_old hS k.2⟩ : (_ ∧ _) ∧ (w''.cell? ⟨w.heap.size, 0, none⟩ = some (.bool true) ∧ w''.cell? ⟨w.heap.size, 1, none⟩ = some (.slice a la ca) ∧ w''.cell? ⟨w.heap.size, 2, none⟩ = some (.slice b lb cb)))))
  have ne1 : w.heap.size + 1 ≠ w.heap.size := by omega
  clear T1 T2 K1
  refine wp_region_held_drew (S := fun w' => w'.cell? ⟨w.heap.size, 0, none⟩ = some (.bool true) ∧ w'.cell? ⟨w.heap.size, 1, none⟩ = some (.slice a la ca) ∧ w'.cell? ⟨w.heap.size, 2, none⟩ = some (.slice b lb cb)) rfl hk ?_
  intro hS
  refine wpAnyH_take (i := 0) (v := ?_) rfl (by kernel_rfl) (by kernel_rfl) (by kernel_rfl) (fun _ _ _ h => h) (Or.inl ⟨by rfl, ?_⟩) hS ?_
  rotate_left
  · intro w' hS'; obtain ⟨s0, s1, s2⟩ := hS'; go_simp <;> with_reducible rfl
  refine wpAnyH_take (i := 1) (v := ?_) rfl (by kernel_rfl) (by kernel_rfl) (by kernel_rfl) (fun _ _ _ h => h) (Or.inl ⟨by rfl, ?_⟩) hS ?_
  rotate_left
  · intro w' hS'; obtain ⟨s0, s1, s2⟩ := hS'; go_simp <;> with_reducible rfl
  refine wpAnyH_take (i := 2) (v := ?_) rfl (by kernel_rfl) (by kernel_rfl) (by kernel_rfl) (fun _ _ _ h => h) (Or.inl ⟨by rfl, ?_⟩) hS ?_
  rotate_left
  · intro w' hS'; obtain ⟨s0, s1, s2⟩ := hS'; go_simp <;> with_reducible rfl
  refine wpAnyH_take (i := 3) (v := ?_) rfl (by kernel_rfl) (by kernel_rfl) (by kernel_rfl) (fun _ _ _ h => h) (Or.inl ⟨by rfl, ?_⟩) hS ?_
  rotate_left
  · intro w' hS'; obtain ⟨s0, s1, s2⟩ := hS'; go_simp <;> with_reducible rfl
  refine wpAnyH_take (i := 4) (v := undef) rfl (by kernel_rfl) (by kernel_rfl) (by kernel_rfl) (fun _ _ _ h => h) (Or.inr ⟨by rfl, rfl⟩) hS ?_
  refine wpAnyH_take (i := 5) (v := undef) rfl (by kernel_rfl) (by kernel_rfl) (by kernel_rfl) (fun _ _ _ h => h) (Or.inr ⟨by rfl, rfl⟩) hS ?_
  refine wpAnyH_take (i := 6) (v := undef) rfl (by kernel_rfl) (by kernel_rfl) (by kernel_rfl) (fun _ _ _ h => h) (Or.inr ⟨by rfl, rfl⟩) hS ?_
  refine wpAnyH_take (i := 7) (v := undef) rfl (by kernel_rfl) (by kernel_rfl) (by kernel_rfl) (fun _ _ _ h => h) (Or.inr ⟨by rfl, rfl⟩) hS ?_
  refine wpAnyH_take (i := 8) (v := ?_) rfl (by kernel_rfl) (by kernel_rfl) (by kernel_rfl) (fun _ _ _ h => h) (Or.inl ⟨by rfl, ?_⟩) hS ?_
  rotate_left
  · intro w' hS'; obtain ⟨s0, s1, s2⟩ := hS'; go_simp <;> with_reducible rfl
  refine wpAnyH_take (i := 9) (v := ?_) rfl (by kernel_rfl) (by kernel_rfl) (by kernel_rfl) (fun _ _ _ h => h) (Or.inl ⟨by rfl, ?_⟩) hS ?_
  rotate_left
  · intro w' hS'; obtain ⟨s0, s1, s2⟩ := hS'; go_simp <;> with_reducible rfl
  refine wpAnyH_take (i := 10) (v := ?_) rfl (by kernel_rfl) (by kernel_rfl) (by kernel_rfl) (fun _ _ _ h => h) (Or.inl ⟨by rfl, ?_⟩) hS ?_
  rotate_left
  · intro w' hS'; obtain ⟨s0, s1, s2⟩ := hS'; go_simp <;> with_reducible rfl
  refine wpAnyH_take (i := 12) (v := ?_) rfl (by kernel_rfl) (by kernel_rfl) (by kernel_rfl) (fun _ _ _ h => h) (Or.inl ⟨by rfl, ?_⟩) hS ?_
  rotate_left
  · intro w' hS'; obtain ⟨s0, s1, s2⟩ := hS'; go_simp <;> with_reducible rfl
  refine wpAnyH_take (i := 13) (v := ?_) rfl (by kernel_rfl) (by kernel_rfl) (by kernel_rfl) (fun _ _ _ h => h) (Or.inl ⟨by rfl, ?_⟩) hS ?_
  rotate_left
  · intro w' hS'; obtain ⟨s0, s1, s2⟩ := hS'; go_simp <;> with_reducible rfl
  refine wpAnyH_ready (rs := [11]) (by kernel_rfl) (by simp) ?_
  refine AllReadyH.cons rfl (fun K hK => ?_) AllReadyH.nil
  go_simp
  refine (U1.out _ hS (by repeat (first | exact Below.refl _ _ | refine Below.drew ?_ | refine old_trans ?_ (by assumption)))).mono ?_
  rintro e w4 ⟨⟨⟨avT, cvT, rfl, hT1⟩, hb4⟩, hc4⟩
  refine hK.out _ _ hc4 ?_
  intro hS4
  clear hK K
  refine wpAnyH_ready (rs := [14]) (by kernel_rfl) (by simp) ?_
  refine AllReadyH.cons rfl (fun K hK => ?_) AllReadyH.nil
  go_simp
  refine (U2.out _ hS4 (by repeat (first | exact Below.refl _ _ | refine Below.drew ?_ | refine old_trans ?_ (by assumption)))).mono ?_
  rintro e w5 ⟨⟨⟨avU, cvU, rfl, hT2⟩, hb5⟩, hc5⟩
  refine hK.out _ _ hc5 ?_
  intro hS5
  clear hK K
  have K5 := (K3.drew.old hb4).old hb5
  have n2 := K5.c0
  have n3 := K5.c1
  have n4 := K5.c2
  have n5 := K5.f0
  have n6 := K5.f1
  have n7 := K5.f2
  refine wpAnyH_take (i := 15) (v := ?_) rfl (by kernel_rfl) (by kernel_rfl) (by kernel_rfl) (fun _ _ _ h => h) (Or.inl ⟨by rfl, ?_⟩) hS5 ?_
  rotate_left
  · intro w' hS'; obtain ⟨s0, s1, s2⟩ := hS'; go_simp <;> with_reducible rfl
  refine wpAnyH_ready (rs := [16]) (by kernel_rfl) (by simp) ?_
  refine AllReadyH.cons rfl (fun K hK => ?_) AllReadyH.nil
  go_simp
  obtain ⟨s0, s1, s2⟩ := id hS5
  refine hK.out _ _ ?_ ?_
  · simp [*, World.cell?_setCell_far]
  intro hS6
  clear hK K
  refine wpAnyH_done (by kernel_rfl) ?_ _
  have hs0 : w.heap.size + 1 < w1.drew.heap.size := K3.1
  have hs1 : w.heap.size + 1 < w4.heap.size := Nat.lt_of_lt_of_le hs0 hb4.size
  have o1 := (oi_set3 (v0 := .bool false) (v1 := .slice avT tl.length cvT) (v2 := .slice avU ul.length cvU) (hT1.later hb5) hs0).mono (show w.heap.size ≤ _ by omega)
  have o2 := (oi_set3 (v0 := .bool false) (v1 := .slice avT tl.length cvT) (v2 := .slice avU ul.length cvU) hT2 hs1).mono (show w.heap.size ≤ _ by omega)
  have hsep := OI.sepOf hT1 hT2 (Nat.le_refl _)
  have hBF : Below w.heap.size w w5 := old_trans (old_trans e0.drew hb4) hb5
  have hK9 := K5.setAll (.bool false) (.slice avT tl.length cvT) (.slice avU ul.length cvU)
  clear hT1 hT2
  go_wp2
  exact bodyPost_ret (resNegS hK9 rfl) rfl ⟨⟨_, _, _, _, rfl, o1, o2, hsep⟩, below_set (below_set (below_set hBF (by omega) _) (by omega) _) (by omega) _⟩
/-- both signs -/
theorem sNeg (bl : Bool) (a b : Option Addr) (la lb ca cb : Nat) (xs ys : List Int) (w : World) (hA : InI w a la ca xs) (hB : InI w b lb cb ys) (dx : digs xs) (dy : digs ys) (tx : topped xs) (l1 : la ≤ 1024) (l2 : lb ≤ 1024) :
    Calls Tryz.prog 43 #[.agg #[.bool bl, .slice a la ca, .slice b lb cb]] w fun e w' => (∃ av cv av' cv', e = .returned (.agg #[.bool (!bl && decide (val xs ≠ 0)), .slice av (natL (val xs)).length cv, .slice av' (natL (val ys)).length cv']) ∧ OI w' w.heap.size av cv (natL (val xs)) ∧ OI w' w.heap.size av' cv' (natL (val ys)) ∧ Sep av av') ∧ Below w.heap.size w w' := by
  have hd0 : decide (0 < la) = decide (val xs ≠ 0) := by
    have hp := hA.1
    have e := natL_canon dx tx
    by_cases h : val xs = 0
    · rw [h, natL_zero] at e
      rw [decide_eq_false (by rw [← hp, ← e]; simp), decide_eq_false (by simpa using h)]
    · have := natL_length_pos (Nat.pos_of_ne_zero h)
      rw [e] at this
      rw [decide_eq_true (by omega), decide_eq_true h]
  cases bl
  · rw [← hd0]
    exact sNegP a b la lb ca cb xs ys w hA hB dx dy l1 l2
  · exact sNegN a b la lb ca cb xs ys w hA hB dx dy l1 l2
end Go.Proofs.YtgoffjpfddmhhaaGreatDoor

/- Differences of fractions: by the program and by the specification. Conditions, of the program: the library's table and its handle of errors hold what their texts lay. -/
namespace Go.Proofs.YtgoffjpfddmhhaaGreatDoor
open Go.RowKit
set_option linter.unusedVariables false
set_option maxRecDepth 100000

theorem Cel6.new (w : World) (v0 v1 v2 v3 v4 v5 : Value) (ty : TypeId) : Cel6 (w.alloc (.cells #[v0, v1, v2, v3, v4, v5] ty)) w.heap.size v0 v1 v2 v3 v4 v5 := by
  refine ⟨by simp, ?_, ?_, ?_, ?_, ?_, ?_⟩ <;> simp [go_sem]
theorem sum_neg (bl bm : Bool) (x u y : Nat) : sumN bl (!bm && decide (u ≠ 0)) x (u * y) = sumN bl (!bm) x (u * y) ∧ sumS bl (!bm && decide (u ≠ 0)) x (u * y) = sumS bl (!bm) x (u * y) := by
  by_cases h : u = 0
  · subst h
    rw [Nat.zero_mul]
    have h1 : ∀ k, sumN bl k x 0 = x := by
      intro k
      unfold sumN
      rw [if_neg (Nat.not_lt_zero x)]
      split <;> simp
    have h2 : ∀ k, sumS bl k x 0 = bl := by
      intro k
      unfold sumS
      rw [if_neg (Nat.not_lt_zero x)]
      split <;> simp
    exact ⟨(h1 _).trans (h1 _).symm, (h2 _).trans (h2 _).symm⟩
  · rw [decide_eq_true h, Bool.and_true]
    exact ⟨rfl, rfl⟩
theorem fracOk_neg {bm : Bool} {us vs : List Int} (h : fracOk bm us vs = true) : fracOk (!bm && decide (val us ≠ 0)) us vs = true := by
  have q := fracOk_in h
  refine fracOk_mk q.1 q.2.1 q.2.2.1 q.2.2.2.1 ?_
  rintro ⟨h1, h2⟩
  rw [Bool.and_eq_true, decide_eq_true_eq] at h1
  exact h1.2 (by rw [List.length_eq_zero_iff.1 h2]; rfl)
theorem resFracSubS {W : World} {b : Nat} {v0 v1 v2 r : Value} {tmps : Array Value} (h : Cel3 W b v0 v1 v2) (ht : tmps[4]? = some (.pointer (some ⟨b, 0, none⟩))) (h3 : tmps[5]? = some r) : (results Tryz.f14 tmps).run Tryz.prog W = .ok (.tuple #[.agg #[v0, v1, v2], r]) W := by
  obtain ⟨h1, ⟨a0, a1, a2⟩, -⟩ := h
  simp [results, Tryz.results14, go_sem, a0, a1, a2, ht, h3]
set_option maxHeartbeats 8000000 in
theorem sFracSub (bl : Bool) (a b : Option Addr) (la lb ca cb : Nat) (xs ys : List Int) (bm : Bool) (c d : Option Addr) (lc ld cc cd : Nat) (us vs : List Int) (w : World) (hA : InI w a la ca xs) (hB : InI w b lb cb ys) (hC : InI w c lc cc us) (hD : InI w d ld cd vs) :
    Calls Tryz.prog 14 #[.agg #[.bool bl, .slice a la ca, .slice b lb cb], .agg #[.bool bm, .slice c lc cc, .slice d ld cd]] w fun e w' => FRes w' w.heap.size e (fracOk bl xs ys && (fracOk bm us vs && lowB (sumN bl (!bm) (val xs * val vs) (val us * val ys)) (val ys * val vs))) (sumS bl (!bm) (val xs * val vs) (val us * val ys)) (sumN bl (!bm) (val xs * val vs) (val us * val ys)) (val ys * val vs) ∧ Below w.heap.size w w' := by
  have e0 : Below w.heap.size w (((w.alloc (.cells #[.bool bl, .slice a la ca, .slice b lb cb] 25)).alloc (.cells #[.bool bm, .slice c lc cc, .slice d ld cd] 25)).alloc (.cells #[.bool false, .slice none 0 0, .slice none 0 0] 25)) := (by repeat (first | exact Below.refl _ _ | refine Below.drew ?_ | refine old_alloc ?_ _ | refine old_trans ?_ (by assumption)))
  have K1 := ((Cel3.new w (.bool bl) (.slice a la ca) (.slice b lb cb) 25).old (old_alloc (Below.refl _ _) (.cells #[.bool bm, .slice c lc cc, .slice d ld cd] 25))).old (old_alloc (Below.refl _ _) (.cells #[.bool false, .slice none 0 0, .slice none 0 0] 25))
  have K2 := (Cel3.new (w.alloc (.cells #[.bool bl, .slice a la ca, .slice b lb cb] 25)) (.bool bm) (.slice c lc cc) (.slice d ld cd) 25).old (old_alloc (Below.refl _ _) (.cells #[.bool false, .slice none 0 0, .slice none 0 0] 25))
  have K3 := Cel3.new ((w.alloc (.cells #[.bool bl, .slice a la ca, .slice b lb cb] 25)).alloc (.cells #[.bool bm, .slice c lc cc, .slice d ld cd] 25)) (.bool false) (.slice none 0 0) (.slice none 0 0) 25
  simp only [World.size_alloc] at K2 K3
  have O1 := hd (sFracOk bl a b la lb ca cb xs ys _ (hA.old e0) (hB.old e0))
  have O2 := hd (fun w' (h : Below w.heap.size w w') => sFracOk bm c d lc ld cc cd us vs w' (hC.old h) (hD.old h))
  cases hf : fracOk bl xs ys
  · rw [hf] at O1
    show Calls _ _ _ _ fun e w' => FRes w' w.heap.size e false (sumS bl (!bm) (val xs * val vs) (val us * val ys)) (sumN bl (!bm) (val xs * val vs) (val us * val ys)) (val ys * val vs) ∧ Below w.heap.size w w'
    clear hf O2
    go_enter Tryz.func14, Tryz.ntmps14
    go_wp2_with fail
    refine O1.out.mono ?_
    rintro e w1 ⟨rfl, hb1⟩
    replace K3 := K3.old hb1
    have hB1 := old_trans e0 hb1
    obtain ⟨m1, ⟨m2, m3, m4⟩, m5, m6, m7⟩ := id K3
    go_wp2
    exact bodyPost_ret (resFracSubS (K3.setAll (.bool false) (.slice none 0 0) (.slice none 0 0)) rfl rfl) rfl ⟨FRes.no _ _ _ _ _, below_set (below_set (below_set hB1 (by omega) _) (by omega) _) (by omega) _⟩
  rw [hf] at O1
  cases hg : fracOk bm us vs
  · rw [hg] at O2
    show Calls _ _ _ _ fun e w' => FRes w' w.heap.size e false (sumS bl (!bm) (val xs * val vs) (val us * val ys)) (sumN bl (!bm) (val xs * val vs) (val us * val ys)) (val ys * val vs) ∧ Below w.heap.size w w'
    clear hf hg
    go_enter Tryz.func14, Tryz.ntmps14
    go_wp2_with fail
    refine O1.out.mono ?_
    rintro e w1 ⟨rfl, hb1⟩
    replace K2 := K2.old hb1
    replace K3 := K3.old hb1
    have hB1 := old_trans e0 hb1
    obtain ⟨k1, ⟨k2, k3, k4⟩, -⟩ := id K2
    go_wp2_with fail
    refine (O2.out _ hB1).mono ?_
    rintro e w2 ⟨rfl, hb2⟩
    replace K3 := K3.old hb2
    have hB2 := old_trans hB1 hb2
    obtain ⟨m1, ⟨m2, m3, m4⟩, m5, m6, m7⟩ := id K3
    go_wp2
    exact bodyPost_ret (resFracSubS (K3.setAll (.bool false) (.slice none 0 0) (.slice none 0 0)) rfl rfl) rfl ⟨FRes.no _ _ _ _ _, below_set (below_set (below_set hB2 (by omega) _) (by omega) _) (by omega) _⟩
  rw [hg] at O2
  have r := fracOk_in hg
  have r1 := natOk_in r.1
  have r2 := natOk_in r.2.1
  have eC := natOk_canon r.1
  have eD := natOk_canon r.2.1
  have pC := hC.1
  have pD := hD.1
  show Calls _ _ _ _ fun e w' => FRes w' w.heap.size e (lowB (sumN bl (!bm) (val xs * val vs) (val us * val ys)) (val ys * val vs)) (sumS bl (!bm) (val xs * val vs) (val us * val ys)) (sumN bl (!bm) (val xs * val vs) (val us * val ys)) (val ys * val vs) ∧ Below w.heap.size w w'
  have NG := hd (fun w' (h : Below w.heap.size w w') => sNeg bm c d lc ld cc cd us vs w' (hC.old h) (hD.old h) r1.2.1 r2.2.1 r1.2.2 (by omega) (by omega))
  simp only [eC, eD] at NG
  have AD := hd (fun c d cc cd w' (h : Below w.heap.size w w') (h3 : InI w' c us.length cc us) (h4 : InI w' d vs.length cd vs) => sFracAdd bl a b la lb ca cb xs ys (!bm && decide (val us ≠ 0)) c d us.length vs.length cc cd us vs w' (hA.old h) (hB.old h) h3 h4)
  simp only [hf, fracOk_neg hg, (sum_neg bl bm (val xs * val vs) (val us) (val ys)).1, (sum_neg bl bm (val xs * val vs) (val us) (val ys)).2, Bool.true_and] at AD
  clear hA hB hC hD r r1 r2 eC eD pC pD hf hg
  generalize sumN bl (!bm) (val xs * val vs) (val us * val ys) = A at *
  generalize sumS bl (!bm) (val xs * val vs) (val us * val ys) = s2 at *
  generalize val ys * val vs = B at *
  generalize lowB A B = okk at *
  generalize (!bm && decide (val us ≠ 0)) = bn at *
  go_enter Tryz.func14, Tryz.ntmps14
  go_wp2_with fail
  refine O1.out.mono ?_
  rintro e w1 ⟨rfl, hb1⟩
  replace K1 := K1.old hb1
  replace K2 := K2.old hb1
  replace K3 := K3.old hb1
  have hB1 := old_trans e0 hb1
  obtain ⟨k1, ⟨k2, k3, k4⟩, -⟩ := id K2
  clear hb1 e0
  go_wp2_with fail
  refine (O2.out _ hB1).mono ?_
  rintro e w2 ⟨rfl, hb2⟩
  replace K1 := K1.old hb2
  replace K2 := K2.old hb2
  replace K3 := K3.old hb2
  have hB2 := old_trans hB1 hb2
  clear hb2 hB1 k1 k2 k3 k4 O1 O2
  have hk : w2.cell? ⟨w.heap.size, 0, none⟩ = some (.bool bl) ∧ w2.cell? ⟨w.heap.size, 1, none⟩ = some (.slice a la ca) ∧ w2.cell? ⟨w.heap.size, 2, none⟩ = some (.slice b lb cb) ∧ w2.cell? ⟨w.heap.size + 1, 0, none⟩ = some (.bool bm) ∧ w2.cell? ⟨w.heap.size + 1, 1, none⟩ = some (.slice c lc cc) ∧ w2.cell? ⟨w.heap.size + 1, 2, none⟩ = some (.slice d ld cd) := ⟨K1.c0, K1.c1, K1.c2, K2.c0, K2.c1, K2.c2⟩
  obtain ⟨k0, k1, k2, k3, k4, k5⟩ := id hk
  have U1 := hd (fun w' (hS : w'.cell? ⟨w.heap.size, 0, none⟩ = some (.bool bl) ∧ w'.cell? ⟨w.heap.size, 1, none⟩ = some (.slice a la ca) ∧ w'.cell? ⟨w.heap.size, 2, none⟩ = some (.slice b lb cb) ∧ w'.cell? ⟨w.heap.size + 1, 0, none⟩ = some (.bool bm) ∧ w'.cell? ⟨w.heap.size + 1, 1, none⟩ = some (.slice c lc cc) ∧ w'.cell? ⟨w.heap.size + 1, 2, none⟩ = some (.slice d ld cd)) (h : Below w2.heap.size w2 w') => (NG.out w' (old_trans hB2 h)).mono (fun e w'' (k : _ ∧ _) => (⟨k, six_old hS k.2⟩ : (_ ∧ _) ∧ (w''.cell? ⟨w.heap.size, 0, none⟩ = some (.bool bl) ∧ w''.cell? ⟨w.heap.size, 1, none⟩ = some (.slice a la ca) ∧ w''.cell? ⟨w.heap.size, 2, none⟩ = some (.slice b lb cb) ∧ w''.cell? ⟨w.heap.size + 1, 0, none⟩ = some (.bool bm) ∧ w''.cell? ⟨w.heap.size + 1, 1, none⟩ = some (.slice c lc cc) ∧ w''.cell? ⟨w.heap.size + 1, 2, none⟩ = some (.slice d ld cd)))))
  have U2 := hd (fun c' d' cc' cd' w' (hS : w'.cell? ⟨w.heap.size, 0, none⟩ = some (.bool bl) ∧ w'.cell? ⟨w.heap.size, 1, none⟩ = some (.slice a la ca) ∧ w'.cell? ⟨w.heap.size, 2, none⟩ = some (.slice b lb cb) ∧ w'.cell? ⟨w.heap.size + 1, 0, none⟩ = some (.bool bm) ∧ w'.cell? ⟨w.heap.size + 1, 1, none⟩ = some (.slice c lc cc) ∧ w'.cell? ⟨w.heap.size + 1, 2, none⟩ = some (.slice d ld cd)) (h : Below w2.heap.size w2 w') h3 h4 => (AD.out c' d' cc' cd' w' (old_trans hB2 h) h3 h4).mono (fun e w'' (k : _ ∧ _) => (⟨k, six_old hS k.2⟩ : (_ ∧ _) ∧ (w''.cell? ⟨w.heap.size, 0, none⟩ = some (.bool bl) ∧ w''.cell? ⟨w.heap.size, 1, none⟩ = some (.slice a la ca) ∧ w''.cell? ⟨w.heap.size, 2, none⟩ = some (.slice b lb cb) ∧ w''.cell? ⟨w.heap.size + 1, 0, none⟩ = some (.bool bm) ∧ w''.cell? ⟨w.heap.size + 1, 1, none⟩ = some (.slice c lc cc) ∧ w''.cell? ⟨w.heap.size + 1, 2, none⟩ = some (.slice d ld cd)))))
  have ne1 : w.heap.size + 1 + 1 ≠ w.heap.size := by omega
  have ne2 : w.heap.size + 1 + 1 ≠ w.heap.size + 1 := by omega
  clear NG AD K1 K2
  go_wp2_with fail
  go_region_held3 (fun w' => w'.cell? ⟨w.heap.size, 0, none⟩ = some (.bool bl) ∧ w'.cell? ⟨w.heap.size, 1, none⟩ = some (.slice a la ca) ∧ w'.cell? ⟨w.heap.size, 2, none⟩ = some (.slice b lb cb) ∧ w'.cell? ⟨w.heap.size + 1, 0, none⟩ = some (.bool bm) ∧ w'.cell? ⟨w.heap.size + 1, 1, none⟩ = some (.slice c lc cc) ∧ w'.cell? ⟨w.heap.size + 1, 2, none⟩ = some (.slice d ld cd)) (go_keep) (first | (go_at_call 43; refine (U1.out _ (by assumption) (by repeat (first | exact Below.refl _ _ | assumption | refine Below.drew ?_ | refine old_alloc ?_ _ | refine old_trans ?_ (by assumption)))).mono ?_; rintro e w4 ⟨⟨⟨a1, c1, a2, c2, rfl, hO1, hO2, -⟩, hb4⟩, hc4⟩) | (go_at_call 28; refine (U2.out _ _ _ _ _ (by assumption) (by repeat (first | exact Below.refl _ _ | assumption | refine Below.drew ?_ | refine old_alloc ?_ _ | refine old_trans ?_ (by assumption))) hO1.inI hO2.inI).mono ?_; rintro e w5 ⟨⟨⟨av, cv, av', cv', rfl, hO, hO', hS⟩, hb5⟩, hc5⟩; have K5 := (K3.drew.old hb4).old hb5; have n2 := K5.c0; have n3 := K5.c1; have n4 := K5.c2; have n5 := K5.f0; have n6 := K5.f1; have n7 := K5.f2))
  all_goals
    have hs0 : w.heap.size + 1 + 1 < w4.heap.size := Nat.lt_of_lt_of_le K3.1 hb4.size
    have hB4 : Below w.heap.size w w4 := old_trans hB2.drew hb4
    have hB6 := old_trans hB4 hb5
    have hfin := hd (FRes.put (w' := w5) (s := s2) (base := w.heap.size) hO hO' hS hB4.size hs0)
    have hK := K5.setAll (.bool (fS okk s2 A)) (.slice av (fT okk A B).length cv) (.slice av' (fU okk A B).length cv')
    have hBG := below_set (below_set (below_set hB6 (show w.heap.size ≤ w.heap.size + 1 + 1 by omega) (i := 0) (.bool (fS okk s2 A))) (show w.heap.size ≤ w.heap.size + 1 + 1 by omega) (i := 1) (.slice av (fT okk A B).length cv)) (show w.heap.size ≤ w.heap.size + 1 + 1 by omega) (i := 2) (.slice av' (fU okk A B).length cv')
    clear hO hO' hO1 hO2 hS U1 U2
    go_wp2
    exact bodyPost_ret (resFracSubS hK rfl rfl) rfl ⟨hfin.out, hBG⟩
end Go.Proofs.YtgoffjpfddmhhaaGreatDoor

/- Fractions compared: by the program and by the specification. Conditions, of the program: the library's table and its handle of errors hold what their texts lay. -/
namespace Go.Proofs.YtgoffjpfddmhhaaGreatDoor
open Go.RowKit
set_option linter.unusedVariables false
set_option maxRecDepth 100000

def cmpF (ok s : Bool) (A : Nat) : Int := if ok = true then signI true s (natL A).length else 2
set_option maxHeartbeats 16000000 in
theorem sFracCmp (bl : Bool) (a b : Option Addr) (la lb ca cb : Nat) (xs ys : List Int) (bm : Bool) (c d : Option Addr) (lc ld cc cd : Nat) (us vs : List Int) (w : World) (hA : InI w a la ca xs) (hB : InI w b lb cb ys) (hC : InI w c lc cc us) (hD : InI w d ld cd vs) :
    Calls Tryz.prog 13 #[.agg #[.bool bl, .slice a la ca, .slice b lb cb], .agg #[.bool bm, .slice c lc cc, .slice d ld cd]] w fun e w' => e = .returned (.int .i64 (cmpF (fracOk bl xs ys && fracOk bm us vs) (sumS bl (!bm) (val xs * val vs) (val us * val ys)) (sumN bl (!bm) (val xs * val vs) (val us * val ys)))) ∧ Below w.heap.size w w' := by
  have e0 : Below w.heap.size w ((w.alloc (.cells #[.bool bl, .slice a la ca, .slice b lb cb] 25)).alloc (.cells #[.bool bm, .slice c lc cc, .slice d ld cd] 25)) := (by repeat (first | exact Below.refl _ _ | refine Below.drew ?_ | refine old_alloc ?_ _ | refine old_trans ?_ (by assumption)))
  have K1 := (Cel3.new w (.bool bl) (.slice a la ca) (.slice b lb cb) 25).old (old_alloc (Below.refl _ _) (.cells #[.bool bm, .slice c lc cc, .slice d ld cd] 25))
  have K2 := Cel3.new (w.alloc (.cells #[.bool bl, .slice a la ca, .slice b lb cb] 25)) (.bool bm) (.slice c lc cc) (.slice d ld cd) 25
  simp only [World.size_alloc] at K2
  have O1 := hd (sFracOk bl a b la lb ca cb xs ys _ (hA.old e0) (hB.old e0))
  have O2 := hd (fun w' (h : Below w.heap.size w w') => sFracOk bm c d lc ld cc cd us vs w' (hC.old h) (hD.old h))
  cases hf : fracOk bl xs ys
  · rw [hf] at O1
    show Calls _ _ _ _ fun e w' => e = .returned (.int .i64 2) ∧ Below w.heap.size w w'
    clear hf O2
    go_enter Tryz.func13, Tryz.ntmps13
    go_wp2_with fail
    refine O1.out.mono ?_
    rintro e w1 ⟨rfl, hb1⟩
    go_wp2
    go_ret
    exact ⟨rfl, old_trans e0 hb1⟩
  rw [hf] at O1
  cases hg : fracOk bm us vs
  · rw [hg] at O2
    show Calls _ _ _ _ fun e w' => e = .returned (.int .i64 2) ∧ Below w.heap.size w w'
    clear hf hg
    go_enter Tryz.func13, Tryz.ntmps13
    go_wp2_with fail
    refine O1.out.mono ?_
    rintro e w1 ⟨rfl, hb1⟩
    replace K2 := K2.old hb1
    have hB1 := old_trans e0 hb1
    obtain ⟨k1, ⟨k2, k3, k4⟩, -⟩ := id K2
    go_wp2_with fail
    refine (O2.out _ hB1).mono ?_
    rintro e w2 ⟨rfl, hb2⟩
    go_wp2
    go_ret
    exact ⟨rfl, old_trans hB1 hb2⟩
  rw [hg] at O2
  have q := fracOk_in hf
  have r := fracOk_in hg
  have q1 := natOk_in q.1
  have q2 := natOk_in q.2.1
  have r1 := natOk_in r.1
  have r2 := natOk_in r.2.1
  have eC := natOk_canon r.1
  have eD := natOk_canon r.2.1
  have pA := hA.1
  have pB := hB.1
  have pC := hC.1
  have pD := hD.1
  show Calls _ _ _ _ fun e w' => e = .returned (.int .i64 (signI true (sumS bl (!bm) (val xs * val vs) (val us * val ys)) (natL (sumN bl (!bm) (val xs * val vs) (val us * val ys))).length)) ∧ Below w.heap.size w w'
  have NG := hd (fun w' (h : Below w.heap.size w w') => sNeg bm c d lc ld cc cd us vs w' (hC.old h) (hD.old h) r1.2.1 r2.2.1 r1.2.2 (by omega) (by omega))
  simp only [eC, eD] at NG
  have AD := hd (fun c d cc cd w' (h : Below w.heap.size w w') (h3 : InI w' c us.length cc us) (h4 : InI w' d vs.length cd vs) => sL6Sum bl a b la lb ca cb xs ys (!bm && decide (val us ≠ 0)) c d us.length vs.length cc cd us vs w' (hA.old h) (hB.old h) h3 h4 q1.2.1 q2.2.1 r1.2.1 r2.2.1 (by omega) (by omega) (by omega) (by omega))
  simp only [(sum_neg bl bm (val xs * val vs) (val us) (val ys)).1, (sum_neg bl bm (val xs * val vs) (val us) (val ys)).2] at AD
  clear hA hB hC hD q r q1 q2 r1 r2 eC eD pA pB pC pD hf hg
  generalize sumN bl (!bm) (val xs * val vs) (val us * val ys) = A at *
  generalize sumS bl (!bm) (val xs * val vs) (val us * val ys) = s2 at *
  generalize val ys * val vs = B at *
  generalize (!bm && decide (val us ≠ 0)) = bn at *
  generalize natL A = tl at *
  generalize natL B = ul at *
  by_cases h0 : tl.length = 0
  · rw [h0, show signI true s2 0 = 0 from rfl]
    rw [h0] at AD
    go_enter Tryz.func13, Tryz.ntmps13
    go_wp2_with fail
    refine O1.out.mono ?_
    rintro e w1 ⟨rfl, hb1⟩
    replace K1 := K1.old hb1
    replace K2 := K2.old hb1
    have hB1 := old_trans e0 hb1
    obtain ⟨k1, ⟨k2, k3, k4⟩, -⟩ := id K2
    clear hb1 e0
    go_wp2_with fail
    refine (O2.out _ hB1).mono ?_
    rintro e w2 ⟨rfl, hb2⟩
    replace K1 := K1.old hb2
    replace K2 := K2.old hb2
    have hB2 := old_trans hB1 hb2
    clear hb2 hB1 k1 k2 k3 k4 O1 O2
    have hk : w2.cell? ⟨w.heap.size, 0, none⟩ = some (.bool bl) ∧ w2.cell? ⟨w.heap.size, 1, none⟩ = some (.slice a la ca) ∧ w2.cell? ⟨w.heap.size, 2, none⟩ = some (.slice b lb cb) ∧ w2.cell? ⟨w.heap.size + 1, 0, none⟩ = some (.bool bm) ∧ w2.cell? ⟨w.heap.size + 1, 1, none⟩ = some (.slice c lc cc) ∧ w2.cell? ⟨w.heap.size + 1, 2, none⟩ = some (.slice d ld cd) := ⟨K1.c0, K1.c1, K1.c2, K2.c0, K2.c1, K2.c2⟩
    obtain ⟨k0, k1, k2, k3, k4, k5⟩ := id hk
    have U1 := hd (fun w' (hS : w'.cell? ⟨w.heap.size, 0, none⟩ = some (.bool bl) ∧ w'.cell? ⟨w.heap.size, 1, none⟩ = some (.slice a la ca) ∧ w'.cell? ⟨w.heap.size, 2, none⟩ = some (.slice b lb cb) ∧ w'.cell? ⟨w.heap.size + 1, 0, none⟩ = some (.bool bm) ∧ w'.cell? ⟨w.heap.size + 1, 1, none⟩ = some (.slice c lc cc) ∧ w'.cell? ⟨w.heap.size + 1, 2, none⟩ = some (.slice d ld cd)) (h : Below w2.heap.size w2 w') => (NG.out w' (old_trans hB2 h)).mono (fun e w'' (k : _ ∧ _) => (⟨k, six_old hS k.2⟩ : (_ ∧ _) ∧ (w''.cell? ⟨w.heap.size, 0, none⟩ = some (.bool bl) ∧ w''.cell? ⟨w.heap.size, 1, none⟩ = some (.slice a la ca) ∧ w''.cell? ⟨w.heap.size, 2, none⟩ = some (.slice b lb cb) ∧ w''.cell? ⟨w.heap.size + 1, 0, none⟩ = some (.bool bm) ∧ w''.cell? ⟨w.heap.size + 1, 1, none⟩ = some (.slice c lc cc) ∧ w''.cell? ⟨w.heap.size + 1, 2, none⟩ = some (.slice d ld cd)))))
    have U2 := hd (fun c' d' cc' cd' w' (hS : w'.cell? ⟨w.heap.size, 0, none⟩ = some (.bool bl) ∧ w'.cell? ⟨w.heap.size, 1, none⟩ = some (.slice a la ca) ∧ w'.cell? ⟨w.heap.size, 2, none⟩ = some (.slice b lb cb) ∧ w'.cell? ⟨w.heap.size + 1, 0, none⟩ = some (.bool bm) ∧ w'.cell? ⟨w.heap.size + 1, 1, none⟩ = some (.slice c lc cc) ∧ w'.cell? ⟨w.heap.size + 1, 2, none⟩ = some (.slice d ld cd)) (h : Below w2.heap.size w2 w') h3 h4 => (AD.out c' d' cc' cd' w' (old_trans hB2 h) h3 h4).mono (fun e w'' (k : _ ∧ _) => (⟨k, six_old hS k.2⟩ : (_ ∧ _) ∧ (w''.cell? ⟨w.heap.size, 0, none⟩ = some (.bool bl) ∧ w''.cell? ⟨w.heap.size, 1, none⟩ = some (.slice a la ca) ∧ w''.cell? ⟨w.heap.size, 2, none⟩ = some (.slice b lb cb) ∧ w''.cell? ⟨w.heap.size + 1, 0, none⟩ = some (.bool bm) ∧ w''.cell? ⟨w.heap.size + 1, 1, none⟩ = some (.slice c lc cc) ∧ w''.cell? ⟨w.heap.size + 1, 2, none⟩ = some (.slice d ld cd)))))
    clear NG AD K1 K2
    go_wp2_with fail
    go_region_held3 (fun w' => w'.cell? ⟨w.heap.size, 0, none⟩ = some (.bool bl) ∧ w'.cell? ⟨w.heap.size, 1, none⟩ = some (.slice a la ca) ∧ w'.cell? ⟨w.heap.size, 2, none⟩ = some (.slice b lb cb) ∧ w'.cell? ⟨w.heap.size + 1, 0, none⟩ = some (.bool bm) ∧ w'.cell? ⟨w.heap.size + 1, 1, none⟩ = some (.slice c lc cc) ∧ w'.cell? ⟨w.heap.size + 1, 2, none⟩ = some (.slice d ld cd)) (go_keep) (first | (go_at_call 43; refine (U1.out _ (by assumption) (by repeat (first | exact Below.refl _ _ | assumption | refine Below.drew ?_ | refine old_alloc ?_ _ | refine old_trans ?_ (by assumption)))).mono ?_; rintro e w4 ⟨⟨⟨a1, c1, a2, c2, rfl, hO1, hO2, -⟩, hb4⟩, hc4⟩) | (go_at_call 42; refine (U2.out _ _ _ _ _ (by assumption) (by repeat (first | exact Below.refl _ _ | assumption | refine Below.drew ?_ | refine old_alloc ?_ _ | refine old_trans ?_ (by assumption))) hO1.inI hO2.inI).mono ?_; rintro e w5 ⟨⟨⟨b1, d1, b2, d2, rfl, hO, hO'⟩, hb5⟩, hc5⟩))
    all_goals
      have hB6 : Below w.heap.size w w5 := (by repeat (first | exact hB2 | refine Below.drew ?_ | refine old_alloc ?_ _ | refine old_trans ?_ (by assumption)))
      clear hO hO' hO1 hO2 U1 U2
      go_wp2
      go_ret
      exact ⟨rfl, hB6⟩
  have h1 := beqF (Nat.pos_of_ne_zero h0)
  cases s2
  · rw [show signI true false tl.length = 1 by unfold signI; rw [if_pos ⟨rfl, h0⟩]; rfl]
    go_enter Tryz.func13, Tryz.ntmps13
    go_wp2_with fail
    refine O1.out.mono ?_
    rintro e w1 ⟨rfl, hb1⟩
    replace K1 := K1.old hb1
    replace K2 := K2.old hb1
    have hB1 := old_trans e0 hb1
    obtain ⟨k1, ⟨k2, k3, k4⟩, -⟩ := id K2
    clear hb1 e0
    go_wp2_with fail
    refine (O2.out _ hB1).mono ?_
    rintro e w2 ⟨rfl, hb2⟩
    replace K1 := K1.old hb2
    replace K2 := K2.old hb2
    have hB2 := old_trans hB1 hb2
    clear hb2 hB1 k1 k2 k3 k4 O1 O2
    have hk : w2.cell? ⟨w.heap.size, 0, none⟩ = some (.bool bl) ∧ w2.cell? ⟨w.heap.size, 1, none⟩ = some (.slice a la ca) ∧ w2.cell? ⟨w.heap.size, 2, none⟩ = some (.slice b lb cb) ∧ w2.cell? ⟨w.heap.size + 1, 0, none⟩ = some (.bool bm) ∧ w2.cell? ⟨w.heap.size + 1, 1, none⟩ = some (.slice c lc cc) ∧ w2.cell? ⟨w.heap.size + 1, 2, none⟩ = some (.slice d ld cd) := ⟨K1.c0, K1.c1, K1.c2, K2.c0, K2.c1, K2.c2⟩
    obtain ⟨k0, k1, k2, k3, k4, k5⟩ := id hk
    have U1 := hd (fun w' (hS : w'.cell? ⟨w.heap.size, 0, none⟩ = some (.bool bl) ∧ w'.cell? ⟨w.heap.size, 1, none⟩ = some (.slice a la ca) ∧ w'.cell? ⟨w.heap.size, 2, none⟩ = some (.slice b lb cb) ∧ w'.cell? ⟨w.heap.size + 1, 0, none⟩ = some (.bool bm) ∧ w'.cell? ⟨w.heap.size + 1, 1, none⟩ = some (.slice c lc cc) ∧ w'.cell? ⟨w.heap.size + 1, 2, none⟩ = some (.slice d ld cd)) (h : Below w2.heap.size w2 w') => (NG.out w' (old_trans hB2 h)).mono (fun e w'' (k : _ ∧ _) => (⟨k, six_old hS k.2⟩ : (_ ∧ _) ∧ (w''.cell? ⟨w.heap.size, 0, none⟩ = some (.bool bl) ∧ w''.cell? ⟨w.heap.size, 1, none⟩ = some (.slice a la ca) ∧ w''.cell? ⟨w.heap.size, 2, none⟩ = some (.slice b lb cb) ∧ w''.cell? ⟨w.heap.size + 1, 0, none⟩ = some (.bool bm) ∧ w''.cell? ⟨w.heap.size + 1, 1, none⟩ = some (.slice c lc cc) ∧ w''.cell? ⟨w.heap.size + 1, 2, none⟩ = some (.slice d ld cd)))))
    have U2 := hd (fun c' d' cc' cd' w' (hS : w'.cell? ⟨w.heap.size, 0, none⟩ = some (.bool bl) ∧ w'.cell? ⟨w.heap.size, 1, none⟩ = some (.slice a la ca) ∧ w'.cell? ⟨w.heap.size, 2, none⟩ = some (.slice b lb cb) ∧ w'.cell? ⟨w.heap.size + 1, 0, none⟩ = some (.bool bm) ∧ w'.cell? ⟨w.heap.size + 1, 1, none⟩ = some (.slice c lc cc) ∧ w'.cell? ⟨w.heap.size + 1, 2, none⟩ = some (.slice d ld cd)) (h : Below w2.heap.size w2 w') h3 h4 => (AD.out c' d' cc' cd' w' (old_trans hB2 h) h3 h4).mono (fun e w'' (k : _ ∧ _) => (⟨k, six_old hS k.2⟩ : (_ ∧ _) ∧ (w''.cell? ⟨w.heap.size, 0, none⟩ = some (.bool bl) ∧ w''.cell? ⟨w.heap.size, 1, none⟩ = some (.slice a la ca) ∧ w''.cell? ⟨w.heap.size, 2, none⟩ = some (.slice b lb cb) ∧ w''.cell? ⟨w.heap.size + 1, 0, none⟩ = some (.bool bm) ∧ w''.cell? ⟨w.heap.size + 1, 1, none⟩ = some (.slice c lc cc) ∧ w''.cell? ⟨w.heap.size + 1, 2, none⟩ = some (.slice d ld cd)))))
    clear NG AD K1 K2
    go_wp2_with fail
    go_region_held3 (fun w' => w'.cell? ⟨w.heap.size, 0, none⟩ = some (.bool bl) ∧ w'.cell? ⟨w.heap.size, 1, none⟩ = some (.slice a la ca) ∧ w'.cell? ⟨w.heap.size, 2, none⟩ = some (.slice b lb cb) ∧ w'.cell? ⟨w.heap.size + 1, 0, none⟩ = some (.bool bm) ∧ w'.cell? ⟨w.heap.size + 1, 1, none⟩ = some (.slice c lc cc) ∧ w'.cell? ⟨w.heap.size + 1, 2, none⟩ = some (.slice d ld cd)) (go_keep) (first | (go_at_call 43; refine (U1.out _ (by assumption) (by repeat (first | exact Below.refl _ _ | assumption | refine Below.drew ?_ | refine old_alloc ?_ _ | refine old_trans ?_ (by assumption)))).mono ?_; rintro e w4 ⟨⟨⟨a1, c1, a2, c2, rfl, hO1, hO2, -⟩, hb4⟩, hc4⟩) | (go_at_call 42; refine (U2.out _ _ _ _ _ (by assumption) (by repeat (first | exact Below.refl _ _ | assumption | refine Below.drew ?_ | refine old_alloc ?_ _ | refine old_trans ?_ (by assumption))) hO1.inI hO2.inI).mono ?_; rintro e w5 ⟨⟨⟨b1, d1, b2, d2, rfl, hO, hO'⟩, hb5⟩, hc5⟩))
    all_goals
      have hB6 : Below w.heap.size w w5 := (by repeat (first | exact hB2 | refine Below.drew ?_ | refine old_alloc ?_ _ | refine old_trans ?_ (by assumption)))
      have hOl := hO.inI.len
      clear hO hO' hO1 hO2 U1 U2
      go_wp2
      go_ret
      exact ⟨rfl, hB6⟩
  · rw [show signI true true tl.length = -1 by unfold signI; rw [if_pos ⟨rfl, h0⟩]; rfl]
    go_enter Tryz.func13, Tryz.ntmps13
    go_wp2_with fail
    refine O1.out.mono ?_
    rintro e w1 ⟨rfl, hb1⟩
    replace K1 := K1.old hb1
    replace K2 := K2.old hb1
    have hB1 := old_trans e0 hb1
    obtain ⟨k1, ⟨k2, k3, k4⟩, -⟩ := id K2
    clear hb1 e0
    go_wp2_with fail
    refine (O2.out _ hB1).mono ?_
    rintro e w2 ⟨rfl, hb2⟩
    replace K1 := K1.old hb2
    replace K2 := K2.old hb2
    have hB2 := old_trans hB1 hb2
    clear hb2 hB1 k1 k2 k3 k4 O1 O2
    have hk : w2.cell? ⟨w.heap.size, 0, none⟩ = some (.bool bl) ∧ w2.cell? ⟨w.heap.size, 1, none⟩ = some (.slice a la ca) ∧ w2.cell? ⟨w.heap.size, 2, none⟩ = some (.slice b lb cb) ∧ w2.cell? ⟨w.heap.size + 1, 0, none⟩ = some (.bool bm) ∧ w2.cell? ⟨w.heap.size + 1, 1, none⟩ = some (.slice c lc cc) ∧ w2.cell? ⟨w.heap.size + 1, 2, none⟩ = some (.slice d ld cd) := ⟨K1.c0, K1.c1, K1.c2, K2.c0, K2.c1, K2.c2⟩
    obtain ⟨k0, k1, k2, k3, k4, k5⟩ := id hk
    have U1 := hd (fun w' (hS : w'.cell? ⟨w.heap.size, 0, none⟩ = some (.bool bl) ∧ w'.cell? ⟨w.heap.size, 1, none⟩ = some (.slice a la ca) ∧ w'.cell? ⟨w.heap.size, 2, none⟩ = some (.slice b lb cb) ∧ w'.cell? ⟨w.heap.size + 1, 0, none⟩ = some (.bool bm) ∧ w'.cell? ⟨w.heap.size + 1, 1, none⟩ = some (.slice c lc cc) ∧ w'.cell? ⟨w.heap.size + 1, 2, none⟩ = some (.slice d ld cd)) (h : Below w2.heap.size w2 w') => (NG.out w' (old_trans hB2 h)).mono (fun e w'' (k : _ ∧ _) => (⟨k, six_old hS k.2⟩ : (_ ∧ _) ∧ (w''.cell? ⟨w.heap.size, 0, none⟩ = some (.bool bl) ∧ w''.cell? ⟨w.heap.size, 1, none⟩ = some (.slice a la ca) ∧ w''.cell? ⟨w.heap.size, 2, none⟩ = some (.slice b lb cb) ∧ w''.cell? ⟨w.heap.size + 1, 0, none⟩ = some (.bool bm) ∧ w''.cell? ⟨w.heap.size + 1, 1, none⟩ = some (.slice c lc cc) ∧ w''.cell? ⟨w.heap.size + 1, 2, none⟩ = some (.slice d ld cd)))))
    have U2 := hd (fun c' d' cc' cd' w' (hS : w'.cell? ⟨w.heap.size, 0, none⟩ = some (.bool bl) ∧ w'.cell? ⟨w.heap.size, 1, none⟩ = some (.slice a la ca) ∧ w'.cell? ⟨w.heap.size, 2, none⟩ = some (.slice b lb cb) ∧ w'.cell? ⟨w.heap.size + 1, 0, none⟩ = some (.bool bm) ∧ w'.cell? ⟨w.heap.size + 1, 1, none⟩ = some (.slice c lc cc) ∧ w'.cell? ⟨w.heap.size + 1, 2, none⟩ = some (.slice d ld cd)) (h : Below w2.heap.size w2 w') h3 h4 => (AD.out c' d' cc' cd' w' (old_trans hB2 h) h3 h4).mono (fun e w'' (k : _ ∧ _) => (⟨k, six_old hS k.2⟩ : (_ ∧ _) ∧ (w''.cell? ⟨w.heap.size, 0, none⟩ = some (.bool bl) ∧ w''.cell? ⟨w.heap.size, 1, none⟩ = some (.slice a la ca) ∧ w''.cell? ⟨w.heap.size, 2, none⟩ = some (.slice b lb cb) ∧ w''.cell? ⟨w.heap.size + 1, 0, none⟩ = some (.bool bm) ∧ w''.cell? ⟨w.heap.size + 1, 1, none⟩ = some (.slice c lc cc) ∧ w''.cell? ⟨w.heap.size + 1, 2, none⟩ = some (.slice d ld cd)))))
    clear NG AD K1 K2
    go_wp2_with fail
    go_region_held3 (fun w' => w'.cell? ⟨w.heap.size, 0, none⟩ = some (.bool bl) ∧ w'.cell? ⟨w.heap.size, 1, none⟩ = some (.slice a la ca) ∧ w'.cell? ⟨w.heap.size, 2, none⟩ = some (.slice b lb cb) ∧ w'.cell? ⟨w.heap.size + 1, 0, none⟩ = some (.bool bm) ∧ w'.cell? ⟨w.heap.size + 1, 1, none⟩ = some (.slice c lc cc) ∧ w'.cell? ⟨w.heap.size + 1, 2, none⟩ = some (.slice d ld cd)) (go_keep) (first | (go_at_call 43; refine (U1.out _ (by assumption) (by repeat (first | exact Below.refl _ _ | assumption | refine Below.drew ?_ | refine old_alloc ?_ _ | refine old_trans ?_ (by assumption)))).mono ?_; rintro e w4 ⟨⟨⟨a1, c1, a2, c2, rfl, hO1, hO2, -⟩, hb4⟩, hc4⟩) | (go_at_call 42; refine (U2.out _ _ _ _ _ (by assumption) (by repeat (first | exact Below.refl _ _ | assumption | refine Below.drew ?_ | refine old_alloc ?_ _ | refine old_trans ?_ (by assumption))) hO1.inI hO2.inI).mono ?_; rintro e w5 ⟨⟨⟨b1, d1, b2, d2, rfl, hO, hO'⟩, hb5⟩, hc5⟩))
    all_goals
      have hB6 : Below w.heap.size w w5 := (by repeat (first | exact hB2 | refine Below.drew ?_ | refine old_alloc ?_ _ | refine old_trans ?_ (by assumption)))
      have hOl := hO.inI.len
      clear hO hO' hO1 hO2 U1 U2
      go_wp2
      go_ret
      exact ⟨rfl, hB6⟩
end Go.Proofs.YtgoffjpfddmhhaaGreatDoor

/- Order and values of fractions: mathematics, and how the specification compares them. No condition. -/
namespace Go.Proofs.YtgoffjpfddmhhaaGreatDoor
open Go.RowKit
set_option linter.unusedVariables false
set_option maxRecDepth 100000

theorem low_frac {s : Bool} {A B : Nat} (h : lowB A B = true) : fracOk (s && decide (A ≠ 0)) (lowT A B) (lowU A B) = true := by
  have q := lowB_in h
  have hg : Nat.gcd A B ≠ 0 := fun e => q.1 (Nat.gcd_eq_zero_iff.1 e).2
  refine fracOk_mk (natOk_natL (natL_len.1 q.2.1)) (natOk_natL (natL_len.1 q.2.2)) ?_ ?_ ?_
  · intro e
    have e2 : B / Nat.gcd A B = 0 := by
      apply Nat.eq_zero_of_not_pos
      intro hp
      have := natL_length_pos hp
      unfold lowU at e
      omega
    have hd := Nat.gcd_dvd_right A B
    have := Nat.div_mul_cancel hd
    rw [e2] at this
    exact q.1 (by omega)
  · unfold lowT lowU
    rw [val_natL, val_natL]
    exact Nat.coprime_div_gcd_div_gcd (Nat.pos_of_ne_zero hg)
  · rintro ⟨h1, h2⟩
    simp only [Bool.and_eq_true, decide_eq_true_eq] at h1
    have := lowT_pos (B := B) h1.2
    omega
/-- a number with a sign -/
def fv (b : Bool) (A : Nat) : Int := if b then -(A : Int) else A
def c3 (P : Int) : Int := if P < 0 then -1 else if 0 < P then 1 else 0
theorem fv_mul (b : Bool) (x v : Nat) : fv b (x * v) = fv b x * v := by unfold fv; split <;> simp [Int.neg_mul]
theorem sum_c3 (bl bm : Bool) (X Y : Nat) : signI true (sumS bl (!bm) X Y) (natL (sumN bl (!bm) X Y)).length = c3 (fv bl X - fv bm Y) := by
  have hN : ∀ v : Nat, ((natL v).length ≠ 0) ↔ v ≠ 0 := fun v => by
    constructor
    · intro h e; subst e; rw [natL_zero] at h; exact h rfl
    · intro h; have := natL_length_pos (Nat.pos_of_ne_zero h); omega
  unfold signI
  simp only [hN, true_and]
  unfold sumS sumN c3 fv
  cases bl <;> cases bm <;> simp <;> (repeat' split) <;> omega
/-- how two fractions stand -/
def pab (bl : Bool) (xs ys : List Int) (bm : Bool) (us vs : List Int) : Int := fv bl (val xs) * val vs - fv bm (val us) * val ys
theorem pab_c3 (bl : Bool) (xs ys : List Int) (bm : Bool) (us vs : List Int) : signI true (sumS bl (!bm) (val xs * val vs) (val us * val ys)) (natL (sumN bl (!bm) (val xs * val vs) (val us * val ys))).length = c3 (pab bl xs ys bm us vs) := by
  rw [sum_c3, fv_mul, fv_mul]
  rfl
theorem frac_pos {b : Bool} {xs ys : List Int} (h : fracOk b xs ys = true) : val ys ≠ 0 := (lowB_in (fracOk_low h).1).1
theorem osCmp {bl bm : Bool} {xs ys us vs : List Int} {m : Int} (h1 : fracOk bl xs ys = true) (h2 : fracOk bm us vs = true) (hm : c3 (pab bl xs ys bm us vs) = m) (a b : Option Addr) (la lb ca cb : Nat) (c d : Option Addr) (lc ld cc cd : Nat) (w : World) (hA : InI w a la ca xs) (hB : InI w b lb cb ys) (hC : InI w c lc cc us) (hD : InI w d ld cd vs) :
    Calls Tryz.prog 13 #[.agg #[.bool bl, .slice a la ca, .slice b lb cb], .agg #[.bool bm, .slice c lc cc, .slice d ld cd]] w fun e w' => e = .returned (.int .i64 m) ∧ Below w.heap.size w w' := by
  have h := sFracCmp bl a b la lb ca cb xs ys bm c d lc ld cc cd us vs w hA hB hC hD
  rw [h1, h2] at h
  unfold cmpF at h
  rw [pab_c3, hm] at h
  exact h
/-- what a fraction, not in lowest terms, is in lowest ones: whether there is one, its sign, top and bottom -/
def fres (s : Bool) (A B : Nat) : Bool × Bool × List Int × List Int := (lowB A B, fS (lowB A B) s A, fT (lowB A B) A B, fU (lowB A B) A B)
theorem fres_in {s : Bool} {A B : Nat} {sg : Bool} {tl ul : List Int} (h : fres s A B = (true, sg, tl, ul)) : fracOk sg tl ul = true ∧ fv sg (val tl) * B = fv s A * val ul ∧ B ≠ 0 := by
  unfold fres at h
  simp only [Prod.mk.injEq] at h
  obtain ⟨h1, h2, h3, h4⟩ := h
  rw [h1] at h2 h3 h4
  have hb := (lowB_in h1).1
  have hf := low_frac (s := s) h1
  have e3 : lowT A B = tl := h3
  have e4 : lowU A B = ul := h4
  have e2 : (s && decide (A ≠ 0)) = sg := h2
  rw [e3, e4, e2] at hf
  refine ⟨hf, ?_, hb⟩
  subst e3 e4 e2
  unfold lowT lowU
  rw [val_natL, val_natL]
  obtain ⟨a, ha⟩ := Nat.gcd_dvd_left A B
  obtain ⟨b, hb2⟩ := Nat.gcd_dvd_right A B
  have hg : 0 < Nat.gcd A B := Nat.pos_of_ne_zero (fun e => hb (Nat.gcd_eq_zero_iff.1 e).2)
  have ea : A / Nat.gcd A B = a := Nat.div_eq_of_eq_mul_right hg ha
  have eb : B / Nat.gcd A B = b := Nat.div_eq_of_eq_mul_right hg hb2
  rw [ea, eb]
  by_cases z : A = 0
  · have za : a = 0 := by rw [← ea, z]; exact Nat.zero_div _
    subst za
    rw [z]
    unfold fv
    cases s <;> simp
  · rw [decide_eq_true z, Bool.and_true, ← fv_mul, ← fv_mul]
    congr 1
    generalize Nat.gcd A B = g at *
    subst ha hb2
    grind
end Go.Proofs.YtgoffjpfddmhhaaGreatDoor
