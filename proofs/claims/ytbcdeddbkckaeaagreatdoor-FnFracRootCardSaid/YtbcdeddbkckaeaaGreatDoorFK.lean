/- Fractions without their sign, and with the other one: the program. Conditions: the library's table and its handle of errors hold what their texts lay. -/
import Derived.Test.YtbcdeddbkckaeaaGreatDoorFJ
namespace Go.Proofs.YtbcdeddbkckaeaaGreatDoor
open Go.RowKit
set_option linter.unusedVariables false
set_option maxRecDepth 100000

theorem FRes.any {w : World} {base : Nat} {e : Ending} {s s' : Bool} {A B A' B' : Nat} (h : FRes w base e false s A B) : FRes w base e false s' A' B' := h
theorem fracOk_low {bl : Bool} {xs ys : List Int} (h : fracOk bl xs ys = true) : lowB (val xs) (val ys) = true ∧ lowT (val xs) (val ys) = xs ∧ lowU (val xs) (val ys) = ys := by
  have q := fracOk_in h
  have eA := natOk_canon q.1
  have eB := natOk_canon q.2.1
  have h1 : lowT (val xs) (val ys) = xs := by unfold lowT; rw [q.2.2.2.1, Nat.div_one, eA]
  have h2 : lowU (val xs) (val ys) = ys := by unfold lowU; rw [q.2.2.2.1, Nat.div_one, eB]
  refine ⟨lowB_mk ?_ ?_ ?_, h1, h2⟩
  · intro e
    rw [e, natL_zero] at eB
    exact q.2.2.1 (by rw [← eB]; rfl)
  · rw [h1]; exact (natOk_in q.1).1
  · rw [h2]; exact (natOk_in q.2.1).1
theorem resAbs1 {W : World} {b : Nat} {v0 v1 v2 r : Value} {tmps : Array Value} (h : Cel3 W b v0 v1 v2) (ht : tmps[2]? = some (.pointer (some ⟨b, 0, none⟩))) (h3 : tmps[3]? = some r) : (results Tryz.f40 tmps).run Tryz.prog W = .ok (.tuple #[.agg #[v0, v1, v2], r]) W := by
  obtain ⟨h1, ⟨a0, a1, a2⟩, -⟩ := h
  simp [results, Tryz.results40, go_sem, a0, a1, a2, ht, h3]
set_option maxHeartbeats 1000000 in
theorem iAbs1 (bl : Bool) (a b : Option Addr) (la lb ca cb : Nat) (w : World) : Calls Tryz.prog 40 (#[.agg #[.bool bl, .slice a la ca, .slice b lb cb]] ++ #[]) w fun e w' => e = .returned (.tuple #[.agg #[.bool false, .slice a la ca, .slice b lb cb], .nilIface]) ∧ Below w.heap.size w w' := by
  have K := Cel3.new (w.alloc (.cells #[.bool bl, .slice a la ca, .slice b lb cb] 53)) (.bool false) (.slice a la ca) (.slice b lb cb) 53
  simp only [World.size_alloc] at K
  show Calls _ _ #[.agg #[.bool bl, .slice a la ca, .slice b lb cb]] _ _
  go_enter Tryz.func40, Tryz.ntmps40
  go_wp2
  exact bodyPost_ret (resAbs1 K rfl rfl) rfl ⟨rfl, (by repeat (first | exact Below.refl _ _ | refine Below.drew ?_ | refine old_alloc ?_ _ | refine old_trans ?_ (by assumption)))⟩
theorem resNegated {W : World} {b : Nat} {v0 v1 v2 : Value} {tmps : Array Value} (h : Cel3 W b v0 v1 v2) (ht : tmps[2]? = some (.pointer (some ⟨b, 0, none⟩))) : (results Tryz.f49 tmps).run Tryz.prog W = .ok (.agg #[v0, v1, v2]) W := by
  obtain ⟨h1, ⟨a0, a1, a2⟩, -⟩ := h
  simp [results, Tryz.results49, go_sem, a0, a1, a2, ht]
set_option maxHeartbeats 1000000 in
theorem iNegated (bl : Bool) (a b : Option Addr) (la lb ca cb : Nat) (w : World) : Calls Tryz.prog 49 #[.agg #[.bool bl, .slice a la ca, .slice b lb cb]] w fun e w' => e = .returned (.agg #[.bool (!bl), .slice a la ca, .slice b lb cb]) ∧ Below w.heap.size w w' := by
  have K := Cel3.new (w.alloc (.cells #[.bool bl, .slice a la ca, .slice b lb cb] 53)) (.bool (!bl)) (.slice a la ca) (.slice b lb cb) 53
  simp only [World.size_alloc] at K
  go_enter Tryz.func49, Tryz.ntmps49
  go_wp2
  exact bodyPost_ret (resNegated K rfl) rfl ⟨rfl, (by repeat (first | exact Below.refl _ _ | refine Below.drew ?_ | refine old_alloc ?_ _ | refine old_trans ?_ (by assumption)))⟩
theorem resFracAbs {W : World} {b : Nat} {v0 v1 v2 r : Value} {tmps : Array Value} (h : Cel3 W b v0 v1 v2) (ht : tmps[2]? = some (.pointer (some ⟨b, 0, none⟩))) (h3 : tmps[3]? = some r) : (results Tryz.f16 tmps).run Tryz.prog W = .ok (.tuple #[.agg #[v0, v1, v2], r]) W := by
  obtain ⟨h1, ⟨a0, a1, a2⟩, -⟩ := h
  simp [results, Tryz.results16, go_sem, a0, a1, a2, ht, h3]
set_option maxHeartbeats 4000000 in
theorem iFracAbs (bl : Bool) (a b : Option Addr) (la lb ca cb : Nat) (xs ys : List Int) (w : World) (hA : InI w a la ca xs) (hB : InI w b lb cb ys) (hT : Tab w) (hE : ET w) :
    Calls Tryz.prog 16 #[.agg #[.bool bl, .slice a la ca, .slice b lb cb]] w fun e w' => FRes w' w.heap.size e (fracOk bl xs ys) false (val xs) (val ys) ∧ Below w.heap.size w w' := by
  have e0 : Below w.heap.size w ((w.alloc (.cells #[.bool bl, .slice a la ca, .slice b lb cb] 26)).alloc (.cells #[.bool false, .slice none 0 0, .slice none 0 0] 26)) := (by repeat (first | exact Below.refl _ _ | refine Below.drew ?_ | refine old_alloc ?_ _ | refine old_trans ?_ (by assumption)))
  have K2 := Cel3.new (w.alloc (.cells #[.bool bl, .slice a la ca, .slice b lb cb] 26)) (.bool false) (.slice none 0 0) (.slice none 0 0) 26
  simp only [World.size_alloc] at K2
  have O : Hid (Calls Tryz.prog 26 #[.agg #[.bool bl, .slice a la ca, .slice b lb cb], .func (.func 40) #[] #[]] ((w.alloc (.cells #[.bool bl, .slice a la ca, .slice b lb cb] 26)).alloc (.cells #[.bool false, .slice none 0 0, .slice none 0 0] 26)) fun e w' => FRes w' ((w.alloc (.cells #[.bool bl, .slice a la ca, .slice b lb cb] 26)).alloc (.cells #[.bool false, .slice none 0 0, .slice none 0 0] 26)).heap.size e (fracOk bl xs ys) false (val xs) (val ys) ∧ Below ((w.alloc (.cells #[.bool bl, .slice a la ca, .slice b lb cb] 26)).alloc (.cells #[.bool false, .slice none 0 0, .slice none 0 0] 26)).heap.size ((w.alloc (.cells #[.bool bl, .slice a la ca, .slice b lb cb] 26)).alloc (.cells #[.bool false, .slice none 0 0, .slice none 0 0] 26)) w') := by
    show Calls _ _ _ _ _
    cases hf : fracOk bl xs ys
    · have h := iOfOne 40 #[] bl a b la lb ca cb xs ys _ (hA.old e0) (hB.old e0) (hT.old e0) (hE.old e0) (enters_of Tryz.func40 (by kernel_rfl) rfl) true false 0 0 (by rw [natL_zero]; simp) (by rw [natL_zero]; simp) (fun h => by rw [hf] at h; cases h)
      rw [hf] at h
      refine h.mono ?_
      rintro e w' ⟨h1, h2⟩
      exact ⟨FRes.any h1, h2⟩
    · have q := fracOk_in hf
      have q1 := natOk_in q.1
      have q2 := natOk_in q.2.1
      have eA := natOk_canon q.1
      have eB := natOk_canon q.2.1
      have lw := fracOk_low hf
      obtain rfl : xs.length = la := hA.1
      obtain rfl : ys.length = lb := hB.1
      have h := iOfOne 40 #[] bl a b xs.length ys.length ca cb xs ys _ (hA.old e0) (hB.old e0) (hT.old e0) (hE.old e0) (enters_of Tryz.func40 (by kernel_rfl) rfl) true false (val xs) (val ys) (by rw [eA]; omega) (by rw [eB]; omega) (fun _ W hW => (iAbs1 bl a b xs.length ys.length ca cb W).mono (fun e W' (k : _ ∧ _) => (⟨.inl ⟨rfl, a, ca, b, cb, by rw [eA, eB]; exact k.1, by rw [eA]; exact (hA.old e0).old (old_trans hW k.2), by rw [eB]; exact (hB.old e0).old (old_trans hW k.2)⟩, k.2⟩ : _ ∧ _)))
      rw [hf, lw.1] at h
      exact h
  clear hA hB hT hE
  go_enter Tryz.func16, Tryz.ntmps16
  go_wp2_with fail
  refine O.out.mono ?_
  rintro e w1 ⟨⟨av, cv, av', cv', rfl, hO, hO', hS⟩, hb1⟩
  have hs0 := K2.1
  replace K2 := K2.old hb1
  have hB1 := old_trans e0 hb1
  obtain ⟨m1, ⟨m2, m3, m4⟩, m5, m6, m7⟩ := id K2
  have hfin := hd (FRes.put (w' := w1) (s := false) (base := w.heap.size) hO hO' hS (show w.heap.size ≤ ((w.alloc (.cells #[.bool bl, .slice a la ca, .slice b lb cb] 26)).alloc (.cells #[.bool false, .slice none 0 0, .slice none 0 0] 26)).heap.size by simp; omega) (show w.heap.size + 1 < _ from hs0))
  have hK := K2.setAll (.bool (fS (fracOk bl xs ys) false (val xs))) (.slice av (fT (fracOk bl xs ys) (val xs) (val ys)).length cv) (.slice av' (fU (fracOk bl xs ys) (val xs) (val ys)).length cv')
  have hBF := below_set (below_set (below_set hB1 (show w.heap.size ≤ w.heap.size + 1 by omega) (i := 0) (.bool (fS (fracOk bl xs ys) false (val xs)))) (show w.heap.size ≤ w.heap.size + 1 by omega) (i := 1) (.slice av (fT (fracOk bl xs ys) (val xs) (val ys)).length cv)) (show w.heap.size ≤ w.heap.size + 1 by omega) (i := 2) (.slice av' (fU (fracOk bl xs ys) (val xs) (val ys)).length cv')
  clear hO hO' hS hb1 O e0 hs0
  generalize hsg : fS (fracOk bl xs ys) false (val xs) = sg at *
  go_wp2
  exact bodyPost_ret (resFracAbs hK rfl rfl) rfl ⟨hfin.out, hBF⟩
end Go.Proofs.YtbcdeddbkckaeaaGreatDoor
