/- Answers with and without a fault; fractions of two numbers: by the program and by the specification; a law's own marks of fractions. Conditions, of the program: the library's table and its handle of errors hold what their texts lay. -/
import Derived.Test.YtmbagnjicollgaaGreatDoorFF
namespace Go.Proofs.YtmbagnjicollgaaGreatDoor
open Go.RowKit
set_option linter.unusedVariables false
set_option maxRecDepth 100000

def fT (ok : Bool) (A B : Nat) : List Int := if ok then lowT A B else []
def fU (ok : Bool) (A B : Nat) : List Int := if ok then lowU A B else []
def fS (ok s : Bool) (A : Nat) : Bool := ok && (s && decide (A ≠ 0))
/-- a fraction that a call answers with, and whether there is one -/
def FRes (w : World) (base : Nat) (e : Ending) (ok s : Bool) (A B : Nat) : Prop := ∃ av cv av' cv', e = .returned (.tuple #[.agg #[.bool (fS ok s A), .slice av (fT ok A B).length cv, .slice av' (fU ok A B).length cv'], .bool ok]) ∧ OI w base av cv (fT ok A B) ∧ OI w base av' cv' (fU ok A B) ∧ Sep av av'
theorem FRes.no (w : World) (base : Nat) (s : Bool) (A B : Nat) : FRes w base (.returned (.tuple #[.agg #[.bool false, .slice none 0 0, .slice none 0 0], .bool false])) false s A B := ⟨none, 0, none, 0, rfl, OI.none _ _, OI.none _ _, Sep.none _⟩
theorem FRes.yes {w : World} {base : Nat} {s : Bool} {A B : Nat} {av av' : Option Addr} {cv cv' : Nat} (h1 : OI w base av cv (lowT A B)) (h2 : OI w base av' cv' (lowU A B)) (h3 : Sep av av') : FRes w base (.returned (.tuple #[.agg #[.bool (s && decide (A ≠ 0)), .slice av (lowT A B).length cv, .slice av' (lowU A B).length cv'], .bool true])) true s A B := ⟨av, cv, av', cv', by unfold fS fT fU; simp only [Bool.true_and, if_true], h1, h2, h3⟩
theorem resAns {W : World} {b : Nat} {v0 v1 v2 r : Value} {tmps : Array Value} (h : Cel3 W b v0 v1 v2) (ht : tmps[4]? = some (.pointer (some ⟨b, 0, none⟩))) (h3 : tmps[5]? = some r) : (results Tryz.f31 tmps).run Tryz.prog W = .ok (.tuple #[.agg #[v0, v1, v2], r]) W := by
  obtain ⟨h1, ⟨a0, a1, a2⟩, -⟩ := h
  simp [results, Tryz.results31, go_sem, a0, a1, a2, ht, h3]
set_option maxHeartbeats 1000000 in
theorem iAnsNil (s : Bool) (v1 v2 : Value) (h1 : ∃ a l c, v1 = .slice a l c) (h2 : ∃ a l c, v2 = .slice a l c) (w : World) : Calls Tryz.prog 31 #[.agg #[.bool s, v1, v2], .nilIface] w fun e w' => e = .returned (.tuple #[.agg #[.bool s, v1, v2], .bool true]) ∧ Below w.heap.size w w' := by
  obtain ⟨a1, l1, c1, rfl⟩ := h1
  obtain ⟨a2, l2, c2, rfl⟩ := h2
  have F0 := hd iNoFault
  have e0 : Below w.heap.size w ((w.alloc (.cells #[.bool s, .slice a1 l1 c1, .slice a2 l2 c2] 26)).alloc (.cells #[.bool false, .slice none 0 0, .slice none 0 0] 26)) := (by repeat (first | exact Below.refl _ _ | refine Below.drew ?_ | refine old_alloc ?_ _ | refine old_trans ?_ (by assumption)))
  have K1 := (Cel3.new w (.bool s) (.slice a1 l1 c1) (.slice a2 l2 c2) 26).old (old_alloc (Below.refl _ _) (.cells #[.bool false, .slice none 0 0, .slice none 0 0] 26))
  have K2 := Cel3.new (w.alloc (.cells #[.bool s, .slice a1 l1 c1, .slice a2 l2 c2] 26)) (.bool false) (.slice none 0 0) (.slice none 0 0) 26
  simp only [World.size_alloc] at K2
  go_enter Tryz.func31, Tryz.ntmps31
  go_wp2_with fail
  refine (F0.out _).mono ?_
  rintro e w1 ⟨rfl, hb1⟩
  replace K1 := K1.old hb1
  replace K2 := K2.old hb1
  have hB1 := old_trans e0 hb1
  clear hb1 e0
  obtain ⟨k1, ⟨k2, k3, k4⟩, -⟩ := id K1
  obtain ⟨m1, ⟨m2, m3, m4⟩, m5, m6, m7⟩ := id K2
  go_wp2
  refine bodyPost_ret (resAns (K2.setAll (.bool s) (.slice a1 l1 c1) (.slice a2 l2 c2)) rfl rfl) rfl ⟨rfl, below_set (below_set (below_set hB1 (by omega) _) (by omega) _) (by omega) _⟩
set_option maxHeartbeats 1000000 in
theorem iAnsFault (s : Bool) (v1 v2 : Value) (h1 : ∃ a l c, v1 = .slice a l c) (h2 : ∃ a l c, v2 = .slice a l c) (f : ByteArray) (w : World) (hE : ET w) : Calls Tryz.prog 31 #[.agg #[.bool s, v1, v2], .iface 62 (.agg #[.string f])] w fun e w' => e = .returned (.tuple #[.agg #[.bool false, .slice none 0 0, .slice none 0 0], .bool false]) ∧ Below w.heap.size w w' := by
  obtain ⟨a1, l1, c1, rfl⟩ := h1
  obtain ⟨a2, l2, c2, rfl⟩ := h2
  have e0 : Below w.heap.size w ((w.alloc (.cells #[.bool s, .slice a1 l1 c1, .slice a2 l2 c2] 26)).alloc (.cells #[.bool false, .slice none 0 0, .slice none 0 0] 26)) := (by repeat (first | exact Below.refl _ _ | refine Below.drew ?_ | refine old_alloc ?_ _ | refine old_trans ?_ (by assumption)))
  have F1 := hd (iFault f _ (hE.old e0))
  have K2 := Cel3.new (w.alloc (.cells #[.bool s, .slice a1 l1 c1, .slice a2 l2 c2] 26)) (.bool false) (.slice none 0 0) (.slice none 0 0) 26
  simp only [World.size_alloc] at K2
  go_enter Tryz.func31, Tryz.ntmps31
  go_wp2_with fail
  refine F1.out.mono ?_
  rintro e w1 ⟨rfl, hb1⟩
  replace K2 := K2.old hb1
  have hB1 := old_trans e0 hb1
  clear hb1 e0
  obtain ⟨m1, ⟨m2, m3, m4⟩, m5, m6, m7⟩ := id K2
  go_wp2
  refine bodyPost_ret (resAns (K2.setAll (.bool false) (.slice none 0 0) (.slice none 0 0)) rfl rfl) rfl ⟨rfl, below_set (below_set (below_set hB1 (by omega) _) (by omega) _) (by omega) _⟩
end Go.Proofs.YtmbagnjicollgaaGreatDoor
