/- The fraction of a sign and two numbers: by the program and by the specification; a law's own marks of fractions. Conditions, of the program: the library's table and its handle of errors hold what their texts lay. -/
import Derived.Test.YtlfaiekcmflgnaaGreatDoorFG
namespace Go.Proofs.YtlfaiekcmflgnaaGreatDoor
open Go.RowKit
set_option linter.unusedVariables false
set_option maxRecDepth 100000

def ofB (xs ys : List Int) : Bool := natOk xs && (natOk ys && lowB (val xs) (val ys))
theorem sl (a : Option Addr) (l c : Nat) : ∃ a' l' c', Value.slice a l c = .slice a' l' c' := ⟨a, l, c, rfl⟩
/-- an answer put into a variable -/
theorem FRes.put {w w' : World} {base n b : Nat} {ok s : Bool} {A B : Nat} {av av' : Option Addr} {cv cv' : Nat} (h1 : OI w n av cv (fT ok A B)) (h2 : OI w n av' cv' (fU ok A B)) (h3 : Sep av av') (hb : base ≤ n) (hn : b < n) :
    FRes (((w.setCell ⟨b, 0, none⟩ (.bool (fS ok s A))).setCell ⟨b, 1, none⟩ (.slice av (fT ok A B).length cv)).setCell ⟨b, 2, none⟩ (.slice av' (fU ok A B).length cv')) base (.returned (.tuple #[.agg #[.bool (fS ok s A), .slice av (fT ok A B).length cv, .slice av' (fU ok A B).length cv'], .bool ok])) ok s A B :=
  ⟨av, cv, av', cv', rfl, (oi_set3 h1 hn).mono hb, (oi_set3 h2 hn).mono hb, h3⟩
theorem resOfS {W : World} {b : Nat} {v0 v1 v2 r : Value} {tmps : Array Value} (h : Cel3 W b v0 v1 v2) (ht : tmps[6]? = some (.pointer (some ⟨b, 0, none⟩))) (h3 : tmps[7]? = some r) : (results Tryz.f54 tmps).run Tryz.prog W = .ok (.tuple #[.agg #[v0, v1, v2], r]) W := by
  obtain ⟨h1, ⟨a0, a1, a2⟩, -⟩ := h
  simp [results, Tryz.results54, go_sem, a0, a1, a2, ht, h3]
set_option maxHeartbeats 8000000 in
theorem sFracOf (bl : Bool) (a b : Option Addr) (la lb ca cb : Nat) (xs ys : List Int) (w : World) (hA : InI w a la ca xs) (hB : InI w b lb cb ys) :
    Calls Tryz.prog 54 #[.bool bl, .slice a la ca, .slice b lb cb] w fun e w' => FRes w' w.heap.size e (ofB xs ys) bl (val xs) (val ys) ∧ Below w.heap.size w w' := by
  have e0 : Below w.heap.size w (w.alloc (.cells #[.bool false, .slice none 0 0, .slice none 0 0] 24)) := (by repeat (first | exact Below.refl _ _ | refine Below.drew ?_ | refine old_alloc ?_ _ | refine old_trans ?_ (by assumption)))
  have K2 := Cel3.new w (.bool false) (.slice none 0 0) (.slice none 0 0) 24
  have K1 := hd (sNatOk a la ca xs _ (hA.old e0))
  have N2 := hd (sNatOk b lb cb ys _ (hB.old e0))
  have hlB := hB.len
  cases h1 : natOk xs
  · rw [h1] at K1
    have hf : Hid (∀ W, FRes W w.heap.size (.returned (.tuple #[.agg #[.bool false, .slice none 0 0, .slice none 0 0], .bool false])) (ofB xs ys) bl (val xs) (val ys)) := fun W => by unfold ofB; rw [h1]; exact FRes.no _ _ _ _ _
    clear h1
    go_enter Tryz.func54, Tryz.ntmps54
    go_wp2_with fail
    refine K1.out.mono ?_
    rintro e w1 ⟨rfl, hw⟩
    obtain rfl := hw
    go_wp2
    exact bodyPost_ret (resOfS K2 rfl rfl) rfl ⟨hf.out _, e0⟩
  rw [h1] at K1
  cases h2 : natOk ys
  · rw [h2] at N2
    have hf : Hid (∀ W, FRes W w.heap.size (.returned (.tuple #[.agg #[.bool false, .slice none 0 0, .slice none 0 0], .bool false])) (ofB xs ys) bl (val xs) (val ys)) := fun W => by unfold ofB; rw [h1, h2]; exact FRes.no _ _ _ _ _
    clear h1 h2
    go_enter Tryz.func54, Tryz.ntmps54
    go_wp2_with fail
    refine K1.out.mono ?_
    rintro e w1 ⟨rfl, hw⟩
    obtain rfl := hw
    go_wp2_with fail
    refine N2.out.mono ?_
    rintro e w1 ⟨rfl, hw⟩
    obtain rfl := hw
    go_wp2
    exact bodyPost_ret (resOfS K2 rfl rfl) rfl ⟨hf.out _, e0⟩
  rw [h2] at N2
  have hof : Hid (ofB xs ys = lowB (val xs) (val ys)) := by show ofB xs ys = _; unfold ofB; rw [h1, h2]; rfl
  have q1 := natOk_in h1
  have q2 := natOk_in h2
  have eA := natOk_canon h1
  have eB := natOk_canon h2
  obtain rfl : xs.length = la := hA.1
  obtain rfl : ys.length = lb := hB.1
  by_cases h0 : ys.length = 0
  · have hv : val ys = 0 := by rw [List.length_eq_zero_iff.1 h0]; rfl
    have hf : Hid (∀ W, FRes W w.heap.size (.returned (.tuple #[.agg #[.bool false, .slice none 0 0, .slice none 0 0], .bool false])) (ofB xs ys) bl (val xs) (val ys)) := fun W => by rw [hof.out, lowB_no (fun h => h.1 hv)]; exact FRes.no _ _ _ _ _
    have h0' : (ys.length : Int) = 0 := by omega
    clear h1 h2 hof q1 q2 eA eB hv h0
    go_enter Tryz.func54, Tryz.ntmps54
    go_wp2_with fail
    refine K1.out.mono ?_
    rintro e w1 ⟨rfl, hw⟩
    obtain rfl := hw
    go_wp2_with fail
    refine N2.out.mono ?_
    rintro e w1 ⟨rfl, hw⟩
    obtain rfl := hw
    go_wp2
    exact bodyPost_ret (resOfS K2 rfl rfl) rfl ⟨hf.out _, e0⟩
  have hbi := beqF (Nat.pos_of_ne_zero h0)
  have hv : val ys ≠ 0 := fun e => h0 (by rw [← eB, e, natL_zero]; rfl)
  have MK := hd (sL6Make bl a b ca cb (val xs) (val ys) _ (by rw [eA]; exact hA.old e0) (by rw [eB]; exact hB.old e0) (by rw [eA]; omega) (by rw [eB]; omega) hv)
  rw [eA, eB] at MK
  rw [hof.out]
  clear h1 h2 hof q1 q2 eA eB hv h0 hA hB
  generalize val xs = A at *
  generalize val ys = B at *
  go_enter Tryz.func54, Tryz.ntmps54
  go_wp2_with fail
  refine K1.out.mono ?_
  rintro e w1 ⟨rfl, hw⟩
  obtain rfl := hw
  go_wp2_with fail
  refine N2.out.mono ?_
  rintro e w1 ⟨rfl, hw⟩
  obtain rfl := hw
  go_wp2_with fail
  refine MK.out.mono ?_
  rintro e w2 ⟨⟨av, cv, av', cv', rfl, hO, hO', hS⟩, hb2⟩
  have hs0 := K2.1
  replace K2 := K2.old hb2
  have hB2 := old_trans e0 hb2
  obtain ⟨m1, ⟨m2, m3, m4⟩, m5, m6, m7⟩ := id K2
  have hfin := hd (FRes.put (w' := w2) (s := bl) hO hO' hS (show w.heap.size ≤ (w.alloc (.cells #[.bool false, .slice none 0 0, .slice none 0 0] 24)).heap.size by simp) hs0)
  have hK := K2.setAll (.bool (fS (lowB A B) bl A)) (.slice av (fT (lowB A B) A B).length cv) (.slice av' (fU (lowB A B) A B).length cv')
  have hBF : Below w.heap.size w (((w2.setCell ⟨w.heap.size, 0, none⟩ (.bool (fS (lowB A B) bl A))).setCell ⟨w.heap.size, 1, none⟩ (.slice av (fT (lowB A B) A B).length cv)).setCell ⟨w.heap.size, 2, none⟩ (.slice av' (fU (lowB A B) A B).length cv')) := below_set (below_set (below_set hB2 (by omega) _) (by omega) _) (by omega) _
  clear hO hO' hS hb2 MK K1 N2
  go_wp2
  exact bodyPost_ret (resOfS hK rfl rfl) rfl ⟨hfin.out, hBF⟩
set_option maxHeartbeats 2000000 in
theorem lMarkF (s : Bool) (base base' : Nat) (av av' : Option Addr) (cv cv' : Nat) (xs ys : List Int) (k : Int) (w : World) (h : OI w base av cv xs) (h' : OI w base' av' cv' ys) (hS : Sep av av') (hl : xs.length ≤ 1048576) (hl' : ys.length ≤ 1048576) (k0 : 0 ≤ k) (k1 : k ≤ 4194304) :
    Calls Tryz.prog 8 #[.agg #[.bool s, .slice av xs.length cv, .slice av' ys.length cv'], .int .i64 k] w fun e w' => e = .returned (.int .i64 (k + xs.length + ys.length)) ∧ OI w' base av cv (imarks k xs.length) ∧ OI w' base' av' cv' (imarks (k + xs.length) ys.length) ∧ ∃ wm, w.grownBy wm (ownB av) ∧ wm.grownBy w' (ownB av') := by
  have e0 : Below w.heap.size w (w.alloc (.cells #[.bool s, .slice av xs.length cv, .slice av' ys.length cv'] 24)) := (by repeat (first | exact Below.refl _ _ | refine Below.drew ?_ | refine old_alloc ?_ _ | refine old_trans ?_ (by assumption)))
  have K := Cel3.new w (.bool s) (.slice av xs.length cv) (.slice av' ys.length cv') 24
  have M1 := hd (lMarkO base av cv xs k _ (h.later e0) hl k0 (by omega))
  have M2 := hd (fun w' (h : OI w' base' av' cv' ys) => lMarkO base' av' cv' ys (k + xs.length) w' h hl' (by omega) (by omega))
  have hlt := h.lt
  have hlt' := h'.lt
  have h2 := h'.later e0
  have hx : k + (xs.length : Int) ≤ 6291456 := by omega
  go_enter Tryz.func8, Tryz.ntmps8
  go_wp2_with fail
  refine M1.out.mono ?_
  rintro e w1 ⟨rfl, hO, hg1⟩
  have hne : some w.heap.size ≠ ownB av := by
    cases av with
    | none => simp [ownB]
    | some q => simp only [ownB, Option.map_some]; intro e; injection e with e; have := hlt q rfl; omega
  replace K := K.kept hg1 hne
  have h3 := h2.kept hg1 (sepB hS.symm)
  obtain ⟨k1', ⟨k2, k3, k4⟩, -⟩ := id K
  go_wp2_with fail
  refine (M2.out _ h3).mono ?_
  rintro e w2 ⟨rfl, hO', hg2⟩
  have hO2 := hO.kept hg2 (sepB hS)
  go_wp2
  go_ret
  exact ⟨rfl, hO2, hO', w1, grown_after e0 hg1, hg2⟩
set_option maxHeartbeats 2000000 in
theorem lHeldF (s : Bool) (base base' : Nat) (av av' : Option Addr) (cv cv' n n' : Nat) (k : Int) (w : World) (h : OI w base av cv (imarks k n)) (h' : OI w base' av' cv' (imarks (k + n) n')) (hl : n ≤ 1048576) (hl' : n' ≤ 1048576) (k0 : 0 ≤ k) (k1 : k ≤ 4194304) :
    Calls Tryz.prog 9 #[.agg #[.bool s, .slice av n cv, .slice av' n' cv'], .int .i64 k] w fun e w' => e = .returned (.int .i64 (k + n + n')) ∧ Below w.heap.size w w' := by
  have e0 : Below w.heap.size w (w.alloc (.cells #[.bool s, .slice av n cv, .slice av' n' cv'] 24)) := (by repeat (first | exact Below.refl _ _ | refine Below.drew ?_ | refine old_alloc ?_ _ | refine old_trans ?_ (by assumption)))
  have K := Cel3.new w (.bool s) (.slice av n cv) (.slice av' n' cv') 24
  have M1 := hd (lHeldO base av cv n k _ (h.later e0) hl k0 (by omega))
  have M2 := hd (fun w' (b : Below w.heap.size w w') => lHeldO base' av' cv' n' (k + n) w' (h'.later b) hl' (by omega) (by omega))
  have hx : k + (n : Int) ≤ 6291456 := by omega
  have hx1 : ¬ (k + (n : Int) < 0) := by omega
  have hx2 : ¬ (k + (n : Int) + (n' : Int) < 0) := by omega
  clear h h'
  go_enter Tryz.func9, Tryz.ntmps9
  go_wp2_with fail
  refine M1.out.mono ?_
  rintro e w1 ⟨rfl, hb1⟩
  obtain ⟨k1', ⟨k2, k3, k4⟩, -⟩ := K.old hb1
  go_wp2_with fail
  refine (M2.out _ (old_trans e0 hb1)).mono ?_
  rintro e w2 ⟨rfl, hb2⟩
  go_wp2
  go_ret
  exact ⟨rfl, old_trans (old_trans e0 hb1) hb2⟩
end Go.Proofs.YtlfaiekcmflgnaaGreatDoor
