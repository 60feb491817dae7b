/- What a rule makes of a fraction, in lowest terms: of whatever function that answers with a ratio or a fault and writes nothing that was there. Conditions: the library's table and its handle of errors hold what their texts lay. -/
import Derived.Test.YtbcdeddbkckaeaaGreatDoorFI
namespace Go.Proofs.YtbcdeddbkckaeaaGreatDoor
open Go.RowKit
set_option linter.unusedVariables false
set_option maxRecDepth 100000

/-- what a rule answers with: a ratio, or a fault -/
def RRes (w : World) (e : Ending) (ok s : Bool) (A B : Nat) : Prop := (ok = true ∧ ∃ a1 c1 a2 c2, e = .returned (.tuple #[.agg #[.bool s, .slice a1 (natL A).length c1, .slice a2 (natL B).length c2], .nilIface]) ∧ InI w a1 (natL A).length c1 (natL A) ∧ InI w a2 (natL B).length c2 (natL B)) ∨ (ok = false ∧ ∃ f, e = .returned (.tuple #[.agg #[.bool false, .slice none 0 0, .slice none 0 0], .iface 79 (.agg #[.string f])]))
theorem resOne {W : World} {b : Nat} {v0 v1 v2 r : Value} {tmps : Array Value} (h : Cel3 W b v0 v1 v2) (ht : tmps[4]? = some (.pointer (some ⟨b, 0, none⟩))) (h3 : tmps[5]? = some r) : (results Tryz.f26 tmps).run Tryz.prog W = .ok (.tuple #[.agg #[v0, v1, v2], r]) W := by
  obtain ⟨h1, ⟨a0, a1, a2⟩, -⟩ := h
  simp [results, Tryz.results26, go_sem, a0, a1, a2, ht, h3]
set_option maxHeartbeats 8000000 in
theorem iOfOne (g : Nat) (caps : Array Value) (bl : Bool) (a b : Option Addr) (la lb ca cb : Nat) (xs ys : List Int) (w : World) (hA : InI w a la ca xs) (hB : InI w b lb cb ys) (hT : Tab w) (hE : ET w)
    (hEnt : ∀ args w, (callFunc g args).run Tryz.prog w = .ok (.enter g args) w) (rok s : Bool) (A B : Nat) (hlA : (natL A).length ≤ 1024) (hlB : (natL B).length ≤ 1024)
    (hG : fracOk bl xs ys = true → ∀ W, Below w.heap.size w W → Calls Tryz.prog g (#[.agg #[.bool bl, .slice a la ca, .slice b lb cb]] ++ caps) W fun e W' => RRes W' e rok s A B ∧ Below W.heap.size W W') :
    Calls Tryz.prog 26 #[.agg #[.bool bl, .slice a la ca, .slice b lb cb], .func (.func g) #[] caps] w fun e w' => FRes w' w.heap.size e (fracOk bl xs ys && (rok && lowB A B)) s A B ∧ Below w.heap.size w w' := by
  have e0 : Below w.heap.size w ((w.alloc (.cells #[.bool bl, .slice a la ca, .slice b lb cb] 26)).alloc (.cells #[.bool false, .slice none 0 0, .slice none 0 0] 26)) := (by repeat (first | exact Below.refl _ _ | refine Below.drew ?_ | refine old_alloc ?_ _ | refine old_trans ?_ (by assumption)))
  have K2 := Cel3.new (w.alloc (.cells #[.bool bl, .slice a la ca, .slice b lb cb] 26)) (.bool false) (.slice none 0 0) (.slice none 0 0) 26
  simp only [World.size_alloc] at K2
  have R := hd (iRatioOf bl a b la lb ca cb xs ys _ (hA.old e0) (hB.old e0) (hT.old e0))
  have AF := hd (fun s a1 l1 c1 a2 l2 c2 f w' (h : Below w.heap.size w w') => iAnsFault s (.slice a1 l1 c1) (.slice a2 l2 c2) (sl _ _ _) (sl _ _ _) f w' (hE.old h))
  have AN := hd (fun s a1 l1 c1 a2 l2 c2 w' => iAnsNil s (.slice a1 l1 c1) (.slice a2 l2 c2) (sl _ _ _) (sl _ _ _) w')
  have LO := hd (fun a1 c1 a2 c2 w' (h1 : InI w' a1 (natL A).length c1 (natL A)) (h2 : InI w' a2 (natL B).length c2 (natL B)) (h : Below w.heap.size w w') => iLowest s a1 a2 c1 c2 A B w' h1 h2 hlA hlB (hT.old h))
  have G := hd hG
  clear hG hA hB hT hE hlA hlB
  go_enter Tryz.func26, Tryz.ntmps26
  go_wp2_with fail
  refine R.out.mono ?_
  rintro e w1 ⟨he, hb1⟩
  replace K2 := K2.old hb1
  have hB1 := old_trans e0 hb1
  clear R hb1 e0
  rcases he with ⟨hf, rfl⟩ | ⟨hf, f, rfl⟩
  rotate_left
  · have hfin : Hid (∀ W, FRes W w.heap.size (.returned (.tuple #[.agg #[.bool false, .slice none 0 0, .slice none 0 0], .bool false])) (fracOk bl xs ys && (rok && lowB A B)) s A B) := fun W => by rw [hf]; exact FRes.no _ _ _ _ _
    have hB2 := old_alloc hB1 (.cells #[.bool false, .slice none 0 0, .slice none 0 0] 53)
    replace K2 := K2.old (old_alloc (Below.refl _ _) (.cells #[.bool false, .slice none 0 0, .slice none 0 0] 53))
    clear G LO AN hf
    go_wp2_with fail
    refine (AF.out _ _ _ _ _ _ _ _ _ hB2).mono ?_
    rintro e w2 ⟨rfl, hb2⟩
    replace K2 := K2.old hb2
    have hB3 := old_trans hB2 hb2
    obtain ⟨m1, ⟨m2, m3, m4⟩, m5, m6, m7⟩ := id K2
    clear hb2 hB2 hB1
    go_wp2
    exact bodyPost_ret (resOne (K2.setAll (.bool false) (.slice none 0 0) (.slice none 0 0)) rfl rfl) rfl ⟨hfin.out _, below_set (below_set (below_set hB3 (by omega) _) (by omega) _) (by omega) _⟩
  have hB2 := old_alloc hB1 (.cells #[.bool bl, .slice a la ca, .slice b lb cb] 53)
  replace K2 := K2.old (old_alloc (Below.refl _ _) (.cells #[.bool bl, .slice a la ca, .slice b lb cb] 53))
  have G1 := hd (G.out hf _ hB2)
  have hf' := hd hf
  clear G hf hB1
  go_wp2_with fail
  refine G1.out.mono ?_
  rintro e w3 ⟨he, hb3⟩
  replace K2 := K2.old hb3
  have hB3 := old_trans hB2 hb3
  clear G1 hb3 hB2
  rcases he with ⟨hr, a1, c1, a2, c2, rfl, hI1, hI2⟩ | ⟨hr, f, rfl⟩
  rotate_left
  · have hfin : Hid (∀ W, FRes W w.heap.size (.returned (.tuple #[.agg #[.bool false, .slice none 0 0, .slice none 0 0], .bool false])) (fracOk bl xs ys && (rok && lowB A B)) s A B) := fun W => by rw [hf'.out, hr]; exact FRes.no _ _ _ _ _
    have hB4 := old_alloc hB3 (.cells #[.bool false, .slice none 0 0, .slice none 0 0] 53)
    replace K2 := K2.old (old_alloc (Below.refl _ _) (.cells #[.bool false, .slice none 0 0, .slice none 0 0] 53))
    clear LO AN hr hf'
    go_wp2_with fail
    refine (AF.out _ _ _ _ _ _ _ _ _ hB4).mono ?_
    rintro e w4 ⟨rfl, hb4⟩
    replace K2 := K2.old hb4
    have hB5 := old_trans hB4 hb4
    obtain ⟨m1, ⟨m2, m3, m4⟩, m5, m6, m7⟩ := id K2
    clear hb4 hB4 hB3
    go_wp2
    exact bodyPost_ret (resOne (K2.setAll (.bool false) (.slice none 0 0) (.slice none 0 0)) rfl rfl) rfl ⟨hfin.out _, below_set (below_set (below_set hB5 (by omega) _) (by omega) _) (by omega) _⟩
  have hal : Below w3.heap.size w3 (w3.alloc (.cells #[.bool s, .slice a1 (natL A).length c1, .slice a2 (natL B).length c2] 53)) := old_alloc (Below.refl _ _) _
  have hB4 := old_trans hB3 hal
  replace K2 := K2.old hal
  have L1 := hd (LO.out _ _ _ _ _ (hI1.old hal) (hI2.old hal) hB4)
  have hok : Hid ((fracOk bl xs ys && (rok && lowB A B)) = lowB A B) := by show _ = _; rw [hf'.out, hr]; rfl
  clear LO hI1 hI2 hal hr hf' hB3
  go_wp2_with fail
  refine L1.out.mono ?_
  rintro e w5 ⟨he, hb5⟩
  have hs0 := K2.1
  replace K2 := K2.old hb5
  have hB5 := old_trans hB4 hb5
  clear L1 hb5
  rcases he with ⟨hf, av, cv, av', cv', rfl, hO, hO', hS⟩ | ⟨hf, f, rfl⟩
  · clear AF
    have hf' : Hid (lowB A B = true) := hf
    have hFY := hd (fun (W : World) (av av' : Option Addr) (cv cv' : Nat) (h1 : OI W w.heap.size av cv (lowT A B)) (h2 : OI W w.heap.size av' cv' (lowU A B)) (h3 : Sep av av') => FRes.yes (s := s) h1 h2 h3)
    clear hf
    generalize (s && decide (A ≠ 0)) = bb at *
    go_wp2_with fail
    refine (AN.out _ _ _ _ _ _ _ _).mono ?_
    rintro e w6 ⟨rfl, hb6⟩
    replace K2 := K2.old hb6
    have hB6 := old_trans hB5 hb6
    have q1 := hO.later hb6
    have q2 := hO'.later hb6
    obtain ⟨m1, ⟨m2, m3, m4⟩, m5, m6, m7⟩ := id K2
    have hfin : Hid (FRes (((w6.setCell ⟨w.heap.size + 1, 0, none⟩ (.bool bb)).setCell ⟨w.heap.size + 1, 1, none⟩ (.slice av (lowT A B).length cv)).setCell ⟨w.heap.size + 1, 2, none⟩ (.slice av' (lowU A B).length cv')) w.heap.size (.returned (.tuple #[.agg #[.bool bb, .slice av (lowT A B).length cv, .slice av' (lowU A B).length cv'], .bool true])) (fracOk bl xs ys && (rok && lowB A B)) s A B) := by
      show FRes _ _ _ _ _ _ _
      rw [hok.out, hf'.out]
      exact hFY.out _ _ _ _ _ ((oi_set3 q1 hs0).mono (by omega)) ((oi_set3 q2 hs0).mono (by omega)) hS
    have hK := K2.setAll (.bool bb) (.slice av (lowT A B).length cv) (.slice av' (lowU A B).length cv')
    have hBF : Below w.heap.size w (((w6.setCell ⟨w.heap.size + 1, 0, none⟩ (.bool bb)).setCell ⟨w.heap.size + 1, 1, none⟩ (.slice av (lowT A B).length cv)).setCell ⟨w.heap.size + 1, 2, none⟩ (.slice av' (lowU A B).length cv')) := below_set (below_set (below_set hB6 (by omega) _) (by omega) _) (by omega) _
    clear hO hO' q1 q2 hb6 hB5 hS hok hf' hFY
    go_wp2
    exact bodyPost_ret (resOne hK rfl rfl) rfl ⟨hfin.out, hBF⟩
  · have hfin : Hid (∀ W, FRes W w.heap.size (.returned (.tuple #[.agg #[.bool false, .slice none 0 0, .slice none 0 0], .bool false])) (fracOk bl xs ys && (rok && lowB A B)) s A B) := fun W => by rw [hok.out, hf]; exact FRes.no _ _ _ _ _
    clear AN hf hok
    go_wp2_with fail
    refine (AF.out _ _ _ _ _ _ _ _ _ hB5).mono ?_
    rintro e w6 ⟨rfl, hb6⟩
    replace K2 := K2.old hb6
    have hB6 := old_trans hB5 hb6
    obtain ⟨m1, ⟨m2, m3, m4⟩, m5, m6, m7⟩ := id K2
    clear hb6 hB5
    go_wp2
    exact bodyPost_ret (resOne (K2.setAll (.bool false) (.slice none 0 0) (.slice none 0 0)) rfl rfl) rfl ⟨hfin.out _, below_set (below_set (below_set hB6 (by omega) _) (by omega) _) (by omega) _⟩
end Go.Proofs.YtbcdeddbkckaeaaGreatDoor
