/- The fraction of a sign and two numbers: by the program and by the specification; a law's own marks of fractions. Conditions, of the program: the library's table and its handle of errors hold what their texts lay. -/
import Derived.Test.YtnjdcaidoffhbaaGreatDoorFG
namespace Go.Proofs.YtnjdcaidoffhbaaGreatDoor
open Go.RowKit
set_option linter.unusedVariables false
set_option maxRecDepth 100000

def ofB (xs ys : List Int) : Bool := natOk xs && (natOk ys && lowB (val xs) (val ys))
theorem sl (a : Option Addr) (l c : Nat) : ∃ a' l' c', Value.slice a l c = .slice a' l' c' := ⟨a, l, c, rfl⟩
/-- an answer put into a variable -/
theorem FRes.put {w w' : World} {base n b : Nat} {ok s : Bool} {A B : Nat} {av av' : Option Addr} {cv cv' : Nat} (h1 : OI w n av cv (fT ok A B)) (h2 : OI w n av' cv' (fU ok A B)) (h3 : Sep av av') (hb : base ≤ n) (hn : b < n) :
    FRes (((w.setCell ⟨b, 0, none⟩ (.bool (fS ok s A))).setCell ⟨b, 1, none⟩ (.slice av (fT ok A B).length cv)).setCell ⟨b, 2, none⟩ (.slice av' (fU ok A B).length cv')) base (.returned (.tuple #[.agg #[.bool (fS ok s A), .slice av (fT ok A B).length cv, .slice av' (fU ok A B).length cv'], .bool ok])) ok s A B :=
  ⟨av, cv, av', cv', rfl, (oi_set3 h1 hn).mono hb, (oi_set3 h2 hn).mono hb, h3⟩
set_option maxHeartbeats 2000000 in
theorem lMarkF (s : Bool) (base base' : Nat) (av av' : Option Addr) (cv cv' : Nat) (xs ys : List Int) (k : Int) (w : World) (h : OI w base av cv xs) (h' : OI w base' av' cv' ys) (hS : Sep av av') (hl : xs.length ≤ 1048576) (hl' : ys.length ≤ 1048576) (k0 : 0 ≤ k) (k1 : k ≤ 4194304) :
    Calls Tryz.prog 7 #[.agg #[.bool s, .slice av xs.length cv, .slice av' ys.length cv'], .int .i64 k] w fun e w' => e = .returned (.int .i64 (k + xs.length + ys.length)) ∧ OI w' base av cv (imarks k xs.length) ∧ OI w' base' av' cv' (imarks (k + xs.length) ys.length) ∧ ∃ wm, w.grownBy wm (ownB av) ∧ wm.grownBy w' (ownB av') := by
  have e0 : Below w.heap.size w (w.alloc (.cells #[.bool s, .slice av xs.length cv, .slice av' ys.length cv'] 24)) := (by repeat (first | exact Below.refl _ _ | refine Below.drew ?_ | refine old_alloc ?_ _ | refine old_trans ?_ (by assumption)))
  have K := Cel3.new w (.bool s) (.slice av xs.length cv) (.slice av' ys.length cv') 24
  have M1 := hd (lMarkO base av cv xs k _ (h.later e0) hl k0 (by omega))
  have M2 := hd (fun w' (h : OI w' base' av' cv' ys) => lMarkO base' av' cv' ys (k + xs.length) w' h hl' (by omega) (by omega))
  have hlt := h.lt
  have hlt' := h'.lt
  have h2 := h'.later e0
  have hx : k + (xs.length : Int) ≤ 6291456 := by omega
  go_enter Tryz.func7, Tryz.ntmps7
  go_wp2_with fail
  refine M1.out.mono ?_
  rintro e w1 ⟨rfl, hO, hg1⟩
  have hne : some w.heap.size ≠ ownB av := by
    cases av with
    | none => simp [ownB]
    | some q => simp only [ownB, Option.map_some]; intro e; injection e with e; have := hlt q rfl; omega
  replace K := K.kept hg1 hne
  have h3 := h2.kept hg1 (sepB hS.symm)
  obtain ⟨k1', ⟨k2, k3, k4⟩, -⟩ := id K
  go_wp2_with fail
  refine (M2.out _ h3).mono ?_
  rintro e w2 ⟨rfl, hO', hg2⟩
  have hO2 := hO.kept hg2 (sepB hS)
  go_wp2
  go_ret
  exact ⟨rfl, hO2, hO', w1, grown_after e0 hg1, hg2⟩
set_option maxHeartbeats 2000000 in
theorem lHeldF (s : Bool) (base base' : Nat) (av av' : Option Addr) (cv cv' n n' : Nat) (k : Int) (w : World) (h : OI w base av cv (imarks k n)) (h' : OI w base' av' cv' (imarks (k + n) n')) (hl : n ≤ 1048576) (hl' : n' ≤ 1048576) (k0 : 0 ≤ k) (k1 : k ≤ 4194304) :
    Calls Tryz.prog 8 #[.agg #[.bool s, .slice av n cv, .slice av' n' cv'], .int .i64 k] w fun e w' => e = .returned (.int .i64 (k + n + n')) ∧ Below w.heap.size w w' := by
  have e0 : Below w.heap.size w (w.alloc (.cells #[.bool s, .slice av n cv, .slice av' n' cv'] 24)) := (by repeat (first | exact Below.refl _ _ | refine Below.drew ?_ | refine old_alloc ?_ _ | refine old_trans ?_ (by assumption)))
  have K := Cel3.new w (.bool s) (.slice av n cv) (.slice av' n' cv') 24
  have M1 := hd (lHeldO base av cv n k _ (h.later e0) hl k0 (by omega))
  have M2 := hd (fun w' (b : Below w.heap.size w w') => lHeldO base' av' cv' n' (k + n) w' (h'.later b) hl' (by omega) (by omega))
  have hx : k + (n : Int) ≤ 6291456 := by omega
  have hx1 : ¬ (k + (n : Int) < 0) := by omega
  have hx2 : ¬ (k + (n : Int) + (n' : Int) < 0) := by omega
  clear h h'
  go_enter Tryz.func8, Tryz.ntmps8
  go_wp2_with fail
  refine M1.out.mono ?_
  rintro e w1 ⟨rfl, hb1⟩
  obtain ⟨k1', ⟨k2, k3, k4⟩, -⟩ := K.old hb1
  go_wp2_with fail
  refine (M2.out _ (old_trans e0 hb1)).mono ?_
  rintro e w2 ⟨rfl, hb2⟩
  go_wp2
  go_ret
  exact ⟨rfl, old_trans (old_trans e0 hb1) hb2⟩
end Go.Proofs.YtnjdcaidoffhbaaGreatDoor
