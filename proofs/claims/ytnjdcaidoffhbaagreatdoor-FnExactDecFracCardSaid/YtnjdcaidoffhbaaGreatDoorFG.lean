/- Answers with and without a fault; fractions of two numbers: by the program and by the specification; a law's own marks of fractions. Conditions, of the program: the library's table and its handle of errors hold what their texts lay. -/
import Derived.Test.YtnjdcaidoffhbaaGreatDoorFF
namespace Go.Proofs.YtnjdcaidoffhbaaGreatDoor
open Go.RowKit
set_option linter.unusedVariables false
set_option maxRecDepth 100000

def fT (ok : Bool) (A B : Nat) : List Int := if ok then lowT A B else []
def fU (ok : Bool) (A B : Nat) : List Int := if ok then lowU A B else []
def fS (ok s : Bool) (A : Nat) : Bool := ok && (s && decide (A ≠ 0))
/-- a fraction that a call answers with, and whether there is one -/
def FRes (w : World) (base : Nat) (e : Ending) (ok s : Bool) (A B : Nat) : Prop := ∃ av cv av' cv', e = .returned (.tuple #[.agg #[.bool (fS ok s A), .slice av (fT ok A B).length cv, .slice av' (fU ok A B).length cv'], .bool ok]) ∧ OI w base av cv (fT ok A B) ∧ OI w base av' cv' (fU ok A B) ∧ Sep av av'
theorem FRes.no (w : World) (base : Nat) (s : Bool) (A B : Nat) : FRes w base (.returned (.tuple #[.agg #[.bool false, .slice none 0 0, .slice none 0 0], .bool false])) false s A B := ⟨none, 0, none, 0, rfl, OI.none _ _, OI.none _ _, Sep.none _⟩
theorem FRes.yes {w : World} {base : Nat} {s : Bool} {A B : Nat} {av av' : Option Addr} {cv cv' : Nat} (h1 : OI w base av cv (lowT A B)) (h2 : OI w base av' cv' (lowU A B)) (h3 : Sep av av') : FRes w base (.returned (.tuple #[.agg #[.bool (s && decide (A ≠ 0)), .slice av (lowT A B).length cv, .slice av' (lowU A B).length cv'], .bool true])) true s A B := ⟨av, cv, av', cv', by unfold fS fT fU; simp only [Bool.true_and, if_true], h1, h2, h3⟩
theorem resAns {W : World} {b : Nat} {v0 v1 v2 r : Value} {tmps : Array Value} (h : Cel3 W b v0 v1 v2) (ht : tmps[4]? = some (.pointer (some ⟨b, 0, none⟩))) (h3 : tmps[5]? = some r) : (results Tryz.f18 tmps).run Tryz.prog W = .ok (.tuple #[.agg #[v0, v1, v2], r]) W := by
  obtain ⟨h1, ⟨a0, a1, a2⟩, -⟩ := h
  simp [results, Tryz.results18, go_sem, a0, a1, a2, ht, h3]
set_option maxHeartbeats 1000000 in
theorem iAnsNil (s : Bool) (v1 v2 : Value) (h1 : ∃ a l c, v1 = .slice a l c) (h2 : ∃ a l c, v2 = .slice a l c) (w : World) : Calls Tryz.prog 18 #[.agg #[.bool s, v1, v2], .nilIface] w fun e w' => e = .returned (.tuple #[.agg #[.bool s, v1, v2], .bool true]) ∧ Below w.heap.size w w' := by
  obtain ⟨a1, l1, c1, rfl⟩ := h1
  obtain ⟨a2, l2, c2, rfl⟩ := h2
  have F0 := hd iNoFault
  have e0 : Below w.heap.size w ((w.alloc (.cells #[.bool s, .slice a1 l1 c1, .slice a2 l2 c2] 24)).alloc (.cells #[.bool false, .slice none 0 0, .slice none 0 0] 24)) := (by repeat (first | exact Below.refl _ _ | refine Below.drew ?_ | refine old_alloc ?_ _ | refine old_trans ?_ (by assumption)))
  have K1 := (Cel3.new w (.bool s) (.slice a1 l1 c1) (.slice a2 l2 c2) 24).old (old_alloc (Below.refl _ _) (.cells #[.bool false, .slice none 0 0, .slice none 0 0] 24))
  have K2 := Cel3.new (w.alloc (.cells #[.bool s, .slice a1 l1 c1, .slice a2 l2 c2] 24)) (.bool false) (.slice none 0 0) (.slice none 0 0) 24
  simp only [World.size_alloc] at K2
  go_enter Tryz.func18, Tryz.ntmps18
  go_wp2_with fail
  refine (F0.out _).mono ?_
  rintro e w1 ⟨rfl, hb1⟩
  replace K1 := K1.old hb1
  replace K2 := K2.old hb1
  have hB1 := old_trans e0 hb1
  clear hb1 e0
  obtain ⟨k1, ⟨k2, k3, k4⟩, -⟩ := id K1
  obtain ⟨m1, ⟨m2, m3, m4⟩, m5, m6, m7⟩ := id K2
  go_wp2
  refine bodyPost_ret (resAns (K2.setAll (.bool s) (.slice a1 l1 c1) (.slice a2 l2 c2)) rfl rfl) rfl ⟨rfl, below_set (below_set (below_set hB1 (by omega) _) (by omega) _) (by omega) _⟩
set_option maxHeartbeats 1000000 in
theorem iAnsFault (s : Bool) (v1 v2 : Value) (h1 : ∃ a l c, v1 = .slice a l c) (h2 : ∃ a l c, v2 = .slice a l c) (f : ByteArray) (w : World) (hE : ET w) : Calls Tryz.prog 18 #[.agg #[.bool s, v1, v2], .iface 69 (.agg #[.string f])] w fun e w' => e = .returned (.tuple #[.agg #[.bool false, .slice none 0 0, .slice none 0 0], .bool false]) ∧ Below w.heap.size w w' := by
  obtain ⟨a1, l1, c1, rfl⟩ := h1
  obtain ⟨a2, l2, c2, rfl⟩ := h2
  have e0 : Below w.heap.size w ((w.alloc (.cells #[.bool s, .slice a1 l1 c1, .slice a2 l2 c2] 24)).alloc (.cells #[.bool false, .slice none 0 0, .slice none 0 0] 24)) := (by repeat (first | exact Below.refl _ _ | refine Below.drew ?_ | refine old_alloc ?_ _ | refine old_trans ?_ (by assumption)))
  have F1 := hd (iFault f _ (hE.old e0))
  have K2 := Cel3.new (w.alloc (.cells #[.bool s, .slice a1 l1 c1, .slice a2 l2 c2] 24)) (.bool false) (.slice none 0 0) (.slice none 0 0) 24
  simp only [World.size_alloc] at K2
  go_enter Tryz.func18, Tryz.ntmps18
  go_wp2_with fail
  refine F1.out.mono ?_
  rintro e w1 ⟨rfl, hb1⟩
  replace K2 := K2.old hb1
  have hB1 := old_trans e0 hb1
  clear hb1 e0
  obtain ⟨m1, ⟨m2, m3, m4⟩, m5, m6, m7⟩ := id K2
  go_wp2
  refine bodyPost_ret (resAns (K2.setAll (.bool false) (.slice none 0 0) (.slice none 0 0)) rfl rfl) rfl ⟨rfl, below_set (below_set (below_set hB1 (by omega) _) (by omega) _) (by omega) _⟩
theorem resMake {W : World} {b : Nat} {v0 v1 v2 r : Value} {tmps : Array Value} (h : Cel3 W b v0 v1 v2) (ht : tmps[6]? = some (.pointer (some ⟨b, 0, none⟩))) (h3 : tmps[7]? = some r) : (results Tryz.f14 tmps).run Tryz.prog W = .ok (.tuple #[.agg #[v0, v1, v2], r]) W := by
  obtain ⟨h1, ⟨a0, a1, a2⟩, -⟩ := h
  simp [results, Tryz.results14, go_sem, a0, a1, a2, ht, h3]
set_option maxHeartbeats 8000000 in
theorem sL6Make (s : Bool) (a b : Option Addr) (ca cb : Nat) (A B : Nat) (w : World) (hA : InI w a (natL A).length ca (natL A)) (hB : InI w b (natL B).length cb (natL B)) (hla : (natL A).length ≤ 65536) (hlb : (natL B).length ≤ 65536) (hB0 : B ≠ 0) :
    Calls Tryz.prog 14 #[.bool s, .slice a (natL A).length ca, .slice b (natL B).length cb] w fun e w' => FRes w' w.heap.size e (lowB A B) s A B ∧ Below w.heap.size w w' := by
  have e0 : Below w.heap.size w (w.alloc (.cells #[.bool false, .slice none 0 0, .slice none 0 0] 24)) := (by repeat (first | exact Below.refl _ _ | refine Below.drew ?_ | refine old_alloc ?_ _ | refine old_trans ?_ (by assumption)))
  have K2 := Cel3.new w (.bool false) (.slice none 0 0) (.slice none 0 0) 24
  by_cases hA0 : A = 0
  · subst hA0
    have hf : lowB 0 B = true := lowB_mk hB0 (by rw [lowT_zero]; simp) (by rw [lowU_zero hB0, natL_one]; simp)
    rw [natL_zero] at *
    show Calls _ _ #[.bool s, .slice a 0 ca, .slice b (natL B).length cb] _ _
    have hr : IRow ((w.alloc (.cells #[.bool false, .slice none 0 0, .slice (some ⟨w.heap.size + 1, 0, none⟩) 1 1] 24)).alloc (.cells #[.int .i64 1] 3)) (w.heap.size + 1) [1] := ⟨by simp, fun i hi => by
      obtain rfl : i = 0 := by simp at hi; omega
      simp⟩
    have K9 := (Cel3.new w (.bool false) (.slice none 0 0) (.slice (some ⟨w.heap.size + 1, 0, none⟩) 1 1) 24).old (old_alloc (Below.refl _ _) (.cells #[.int .i64 1] 3))
    have hfin : Hid (FRes ((w.alloc (.cells #[.bool false, .slice none 0 0, .slice (some ⟨w.heap.size + 1, 0, none⟩) 1 1] 24)).alloc (.cells #[.int .i64 1] 3)) w.heap.size (.returned (.tuple #[.agg #[.bool false, .slice none 0 0, .slice (some ⟨w.heap.size + 1, 0, none⟩) 1 1], .bool true])) (lowB 0 B) s 0 B) := by
      show FRes _ _ _ _ _ _ _
      rw [hf]
      have h1 : lowU 0 B = [1] := by rw [lowU_zero hB0, natL_one]
      refine ⟨none, 0, some ⟨w.heap.size + 1, 0, none⟩, 1, ?_, ?_, ?_, Sep.none _⟩
      · unfold fS fT fU
        simp only [if_true, lowT_zero, h1]
        simp
      · show OI _ _ _ _ (lowT 0 B)
        rw [lowT_zero]
        exact OI.none _ _
      · show OI _ _ _ _ (lowU 0 B)
        rw [h1]
        exact ⟨fun x hx => by simp at hx; subst hx; omega, Nat.le_refl _, by unfold maxLen; omega, .inr ⟨_, rfl, by omega, hr⟩⟩
    clear hA hB hla hlb hf
    go_enter Tryz.func14, Tryz.ntmps14
    go_wp2
    refine bodyPost_ret (resMake K9 rfl rfl) rfl ⟨hfin.out, (by repeat (first | exact Below.refl _ _ | refine Below.drew ?_ | refine old_alloc ?_ _ | refine old_trans ?_ (by assumption)))⟩
  have hap := natL_length_pos (Nat.pos_of_ne_zero hA0)
  have hg : 0 < Nat.gcd A B := Nat.gcd_pos_of_pos_right _ (Nat.pos_of_ne_zero hB0)
  have hgl : (natL (Nat.gcd A B)).length ≤ 65536 := Nat.le_trans (natL_le (Nat.le_of_dvd (Nat.pos_of_ne_zero hB0) (Nat.gcd_dvd_right _ _))) hlb
  have DV := hd (sGcd a b _ _ ca cb _ _ _ (hA.old e0) (hB.old e0) (digs_natL A) (digs_natL B) hla hlb)
  have C1 := hd (fun av cv base w' (h : Below w.heap.size w w') (h' : OI w' base av cv (natL (Nat.gcd A B))) => sDiv a av _ _ ca cv _ _ w' (hA.old h) h'.inI (digs_natL A) (digs_natL _) (topped_natL _) (topped_natL _) hla (by omega) (natL_length_pos hg))
  have C2 := hd (fun av cv base w' (h : Below w.heap.size w w') (h' : OI w' base av cv (natL (Nat.gcd A B))) => sDiv b av _ _ cb cv _ _ w' (hB.old h) h'.inI (digs_natL B) (digs_natL _) (topped_natL _) (topped_natL _) hlb (by omega) (natL_length_pos hg))
  simp only [val_natL] at DV C1 C2
  have hT1 : Hid (lowT A B = natL (A / Nat.gcd A B)) := rfl
  have hU1 : Hid (lowU A B = natL (B / Nat.gcd A B)) := rfl
  rw [← hT1.out] at C1
  rw [← hU1.out] at C2
  have hbi := beqF hap
  have lt0 : (lowT A B).length ≤ 65536 := Nat.le_trans (natL_le (Nat.div_le_self _ _)) hla
  have lu0 : (lowU A B).length ≤ 65536 := Nat.le_trans (natL_le (Nat.div_le_self _ _)) hlb
  have hyes : Hid ((lowT A B).length ≤ 256 → (lowU A B).length ≤ 256 → lowB A B = true) := fun h1 h2 => lowB_mk hB0 h1 h2
  have hno : Hid (¬ ((lowT A B).length ≤ 256 ∧ (lowU A B).length ≤ 256) → lowB A B = false) := fun h => lowB_no (fun k => h k.2)
  have hsA : Hid ((s && decide (A ≠ 0)) = s) := by show _ = _; rw [decide_eq_true hA0, Bool.and_true]
  clear hA hB hap hg hT1 hU1 hla hlb hB0 hgl hA0
  generalize natL (Nat.gcd A B) = gl at *
  generalize natL (A % Nat.gcd A B) = r1 at *
  generalize natL (B % Nat.gcd A B) = r2 at *
  go_enter Tryz.func14, Tryz.ntmps14
  go_wp2_with fail
  refine DV.out.mono ?_
  rintro e w1 ⟨⟨avG, cvG, rfl, hG⟩, hb1⟩
  replace K2 := K2.old hb1
  have hB1 := old_trans e0 hb1
  have hs1 := K2.1
  clear e0 hb1 DV
  go_wp2_with fail
  refine (C1.out _ _ _ _ hB1 hG).mono ?_
  rintro e w2 ⟨⟨av, cv, av1, cv1, rfl, hO, -, -⟩, hb2⟩
  replace K2 := K2.old hb2
  have hs2 := K2.1
  have hG2 := hG.later hb2
  have hB2 := old_trans hB1 hb2
  clear hb2 C1 hG hB1
  go_wp2_with fail
  refine (C2.out _ _ _ _ hB2 hG2).mono ?_
  rintro e w3 ⟨⟨av', cv', av3, cv3, rfl, hO', -, -⟩, hb3⟩
  replace K2 := K2.old hb3
  have hsep := OI.sepOf hO hO' (Nat.le_refl _)
  have q1 := hO.later hb3
  have hB3 := old_trans hB2 hb3
  have q2 := hO'
  clear hb3 C2 hG2 hB2 hO hO'
  obtain ⟨m1, ⟨m2, m3, m4⟩, m5, m6, m7⟩ := id K2
  have qT : (0 : Int) ≤ ((lowT A B).length : Int) := by omega
  have qU : (0 : Int) ≤ ((lowU A B).length : Int) := by omega
  by_cases h256 : (lowT A B).length ≤ 256 ∧ (lowU A B).length ≤ 256
  rotate_left
  · have hf : Hid (∀ W, FRes W w.heap.size (.returned (.tuple #[.agg #[.bool false, .slice none 0 0, .slice none 0 0], .bool false])) (lowB A B) s A B) := fun W => by rw [hno.out h256]; exact FRes.no _ _ _ _ _
    have hc : 256 < ((lowT A B).length : Int) ∨ (((lowT A B).length : Int) ≤ 256 ∧ 256 < ((lowU A B).length : Int)) := by omega
    clear hno hyes h256 q1 q2 hsep
    generalize hLT : ((lowT A B).length : Int) = LT at *
    generalize hLU : ((lowU A B).length : Int) = LU at *
    rcases hc with hc | ⟨hc0, hc⟩
    · go_wp2
      refine bodyPost_ret (resMake (K2.setAll (.bool false) (.slice none 0 0) (.slice none 0 0)) rfl rfl) rfl ⟨hf.out _, below_set (below_set (below_set hB3 (by omega) _) (by omega) _) (by omega) _⟩
    · go_wp2
      refine bodyPost_ret (resMake (K2.setAll (.bool false) (.slice none 0 0) (.slice none 0 0)) rfl rfl) rfl ⟨hf.out _, below_set (below_set (below_set hB3 (by omega) _) (by omega) _) (by omega) _⟩
  have hf := hd (hyes.out h256.1 h256.2)
  have c1 : ¬ (256 < ((lowT A B).length : Int)) := by omega
  have c2 : ¬ (256 < ((lowU A B).length : Int)) := by omega
  have w1' := (oi_set3 (v0 := .bool s) (v1 := .slice av (lowT A B).length cv) (v2 := .slice av' (lowU A B).length cv') q1 hs1).mono (show w.heap.size ≤ w1.heap.size by omega)
  have w2' := (oi_set3 (v0 := .bool s) (v1 := .slice av (lowT A B).length cv) (v2 := .slice av' (lowU A B).length cv') q2 hs2).mono (show w.heap.size ≤ w2.heap.size by omega)
  have hK := K2.setAll (.bool s) (.slice av (lowT A B).length cv) (.slice av' (lowU A B).length cv')
  have hfin : Hid (FRes (((w3.setCell ⟨w.heap.size, 0, none⟩ (.bool s)).setCell ⟨w.heap.size, 1, none⟩ (.slice av (lowT A B).length cv)).setCell ⟨w.heap.size, 2, none⟩ (.slice av' (lowU A B).length cv')) w.heap.size (.returned (.tuple #[.agg #[.bool s, .slice av (lowT A B).length cv, .slice av' (lowU A B).length cv'], .bool true])) (lowB A B) s A B) := by
    show FRes _ _ _ _ _ _ _
    rw [hf.out]
    have := FRes.yes (s := s) w1' w2' hsep
    rw [hsA.out] at this
    exact this
  clear hno hyes h256 q1 q2 hf
  go_wp2
  refine bodyPost_ret (resMake hK rfl rfl) rfl ⟨hfin.out, below_set (below_set (below_set hB3 (by omega) _) (by omega) _) (by omega) _⟩
end Go.Proofs.YtnjdcaidoffhbaaGreatDoor
