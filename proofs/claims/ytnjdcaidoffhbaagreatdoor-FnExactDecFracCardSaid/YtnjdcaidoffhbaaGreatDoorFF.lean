/- Fractions brought to lowest terms: by the program and by the specification; answers with and without a fault. Conditions: digits without needless noughts, 1024 at most; of the program: the library's table and its handle of errors hold what their texts lay. -/
import Derived.Test.YtnjdcaidoffhbaaGreatDoorFE
import Derived.Test.YtnjdcaidoffhbaaGreatDoorBG
namespace Go.Proofs.YtnjdcaidoffhbaaGreatDoor
open Go.RowKit
set_option linter.unusedVariables false
set_option maxRecDepth 100000

def lowT (A B : Nat) : List Int := natL (A / Nat.gcd A B)
def lowU (A B : Nat) : List Int := natL (B / Nat.gcd A B)
def lowB (A B : Nat) : Bool := decide (B ≠ 0) && (decide ((lowT A B).length ≤ 256) && decide ((lowU A B).length ≤ 256))
theorem lowB_in {A B : Nat} (h : lowB A B = true) : B ≠ 0 ∧ (lowT A B).length ≤ 256 ∧ (lowU A B).length ≤ 256 := by
  unfold lowB at h
  simp only [Bool.and_eq_true, decide_eq_true_eq] at h
  exact h
theorem lowB_mk {A B : Nat} (h1 : B ≠ 0) (h2 : (lowT A B).length ≤ 256) (h3 : (lowU A B).length ≤ 256) : lowB A B = true := by
  unfold lowB
  simp only [Bool.and_eq_true, decide_eq_true_eq]
  exact ⟨h1, h2, h3⟩
theorem lowB_no {A B : Nat} (h : ¬ (B ≠ 0 ∧ (lowT A B).length ≤ 256 ∧ (lowU A B).length ≤ 256)) : lowB A B = false := by
  cases e : lowB A B
  · rfl
  · exact absurd (lowB_in e) h
theorem lowT_pos {A B : Nat} (h : A ≠ 0) : 0 < (lowT A B).length := by
  refine natL_length_pos ?_
  have hg : 0 < Nat.gcd A B := Nat.gcd_pos_of_pos_left _ (Nat.pos_of_ne_zero h)
  exact Nat.div_pos (Nat.le_of_dvd (Nat.pos_of_ne_zero h) (Nat.gcd_dvd_left _ _)) hg
theorem lowT_zero (B : Nat) : lowT 0 B = [] := by unfold lowT; rw [Nat.zero_div, natL_zero]
theorem lowU_zero {B : Nat} (h : B ≠ 0) : lowU 0 B = natL 1 := by unfold lowU; rw [Nat.gcd_zero_left, Nat.div_self (Nat.pos_of_ne_zero h)]
theorem retF {b c : Bool} {x y z : Value} (h : c = b) : Ending.returned (.tuple #[.agg #[.bool b, x, y], z]) = .returned (.tuple #[.agg #[.bool c, x, y], z]) := by rw [h]
theorem resLow {W : World} {b : Nat} {v0 v1 v2 err : Value} {tmps : Array Value} (h : Cel3 W b v0 v1 v2) (ht : tmps[2]? = some (.pointer (some ⟨b, 0, none⟩))) (h3 : tmps[3]? = some err) : (results Tryz.f20 tmps).run Tryz.prog W = .ok (.tuple #[.agg #[v0, v1, v2], err]) W := by
  obtain ⟨h1, ⟨a0, a1, a2⟩, -⟩ := h
  simp [results, Tryz.results20, go_sem, a0, a1, a2, ht, h3]
set_option maxHeartbeats 8000000 in
theorem iLowest (bl : Bool) (a b : Option Addr) (ca cb : Nat) (A B : Nat) (w : World) (hA : InI w a (natL A).length ca (natL A)) (hB : InI w b (natL B).length cb (natL B)) (hla : (natL A).length ≤ 1024) (hlb : (natL B).length ≤ 1024) (hT : Tab w) :
    Calls Tryz.prog 20 #[.agg #[.bool bl, .slice a (natL A).length ca, .slice b (natL B).length cb]] w fun e w' => ((lowB A B = true ∧ ∃ av cv av' cv', e = .returned (.tuple #[.agg #[.bool (bl && decide (A ≠ 0)), .slice av (lowT A B).length cv, .slice av' (lowU A B).length cv'], .nilIface]) ∧ OI w' w.heap.size av cv (lowT A B) ∧ OI w' w.heap.size av' cv' (lowU A B) ∧ Sep av av') ∨ (lowB A B = false ∧ ∃ s, e = .returned (.tuple #[.agg #[.bool false, .slice none 0 0, .slice none 0 0], .iface 69 (.agg #[.string s])]))) ∧ Below w.heap.size w w' := by
  have e0 : Below w.heap.size w ((w.alloc (.cells #[.bool bl, .slice a (natL A).length ca, .slice b (natL B).length cb] 51)).alloc (.cells #[.bool false, .slice none 0 0, .slice none 0 0] 24)) := (by repeat (first | exact Below.refl _ _ | refine Below.drew ?_ | refine old_alloc ?_ _ | refine old_trans ?_ (by assumption)))
  have K1 := (Cel3.new w (.bool bl) (.slice a (natL A).length ca) (.slice b (natL B).length cb) 51).old (old_alloc (Below.refl _ _) (.cells #[.bool false, .slice none 0 0, .slice none 0 0] 24))
  have K2 := Cel3.new (w.alloc (.cells #[.bool bl, .slice a (natL A).length ca, .slice b (natL B).length cb] 51)) (.bool false) (.slice none 0 0) (.slice none 0 0) 24
  simp only [World.size_alloc] at K2
  by_cases hB0 : B = 0
  · have hf : Hid (lowB A B = false) := lowB_no (fun h => h.1 hB0)
    subst hB0
    rw [natL_zero] at *
    have hl := hA.len
    show Calls _ _ #[.agg #[.bool bl, .slice a (natL A).length ca, .slice b 0 cb]] _ _
    clear hB hlb hA hT
    generalize (natL A).length = la at *
    go_enter Tryz.func20, Tryz.ntmps20
    go_wp2
    refine bodyPost_ret (resLow K2 rfl rfl) rfl ⟨.inr ⟨hf.out, _, rfl⟩, e0⟩
  have hbp := natL_length_pos (Nat.pos_of_ne_zero hB0)
  have hg : 0 < Nat.gcd A B := Nat.gcd_pos_of_pos_right _ (Nat.pos_of_ne_zero hB0)
  have hgl : (natL (Nat.gcd A B)).length ≤ 1024 := Nat.le_trans (natL_le (Nat.le_of_dvd (Nat.pos_of_ne_zero hB0) (Nat.gcd_dvd_right _ _))) hlb
  have DV := hd (iDivisor a b _ _ ca cb _ _ _ (hA.old e0) (hB.old e0) (digs_natL A) (digs_natL B) (topped_natL A) (topped_natL B) hla hlb (hT.old e0))
  have C1 := hd (fun av cv base w' (h : Below w.heap.size w w') (h' : OI w' base av cv (natL (Nat.gcd A B))) => iCut a av _ _ ca cv _ _ w' (hA.old h) h'.inI (digs_natL A) (digs_natL _) (topped_natL _) (by omega) (by omega) (natL_length_pos hg))
  have C2 := hd (fun av cv base w' (h : Below w.heap.size w w') (h' : OI w' base av cv (natL (Nat.gcd A B))) => iCut b av _ _ cb cv _ _ w' (hB.old h) h'.inI (digs_natL B) (digs_natL _) (topped_natL _) (by omega) (by omega) (natL_length_pos hg))
  simp only [val_natL] at DV C1 C2
  have hT1 : Hid (lowT A B = natL (A / Nat.gcd A B)) := rfl
  have hU1 : Hid (lowU A B = natL (B / Nat.gcd A B)) := rfl
  rw [← hT1.out] at C1
  rw [← hU1.out] at C2
  have hbi := beqF hbp
  have lt0 : (lowT A B).length ≤ 1024 := Nat.le_trans (natL_le (Nat.div_le_self _ _)) hla
  have lu0 : (lowU A B).length ≤ 1024 := Nat.le_trans (natL_le (Nat.div_le_self _ _)) hlb
  have hyes : Hid ((lowT A B).length ≤ 256 → (lowU A B).length ≤ 256 → lowB A B = true) := fun h1 h2 => lowB_mk hB0 h1 h2
  have hno : Hid (¬ ((lowT A B).length ≤ 256 ∧ (lowU A B).length ≤ 256) → lowB A B = false) := fun h => lowB_no (fun k => h k.2)
  have hz : Hid (A = 0 → (lowT A B).length = 0) := fun h => by subst h; rw [lowT_zero]; rfl
  have hnz : Hid (A ≠ 0 → 0 < (lowT A B).length) := fun h => lowT_pos h
  clear hA hB hT hbp hg hT1 hU1 hla hlb hB0 hgl
  generalize natL (Nat.gcd A B) = gl at *
  generalize natL (A % Nat.gcd A B) = r1 at *
  generalize natL (B % Nat.gcd A B) = r2 at *
  go_enter Tryz.func20, Tryz.ntmps20
  go_wp2_with fail
  refine DV.out.mono ?_
  rintro e w1 ⟨⟨avG, cvG, rfl, hG⟩, hb1⟩
  replace K1 := K1.old hb1
  replace K2 := K2.old hb1
  have hB1 := old_trans e0 hb1
  have hs1 := K2.1
  clear e0 hb1 DV
  obtain ⟨k1, ⟨k2, k3, k4⟩, -⟩ := id K1
  go_wp2_with fail
  refine (C1.out _ _ _ _ hB1 hG).mono ?_
  rintro e w2 ⟨⟨av, cv, av1, cv1, rfl, hO, -, -⟩, hb2⟩
  replace K1 := K1.old hb2
  replace K2 := K2.old hb2
  have hs2 := K2.1
  have hG2 := hG.later hb2
  have hB2 := old_trans hB1 hb2
  clear hb2 C1 k1 k2 k3 k4 hG hB1
  obtain ⟨k1, ⟨k2, k3, k4⟩, -⟩ := id K1
  go_wp2_with fail
  refine (C2.out _ _ _ _ hB2 hG2).mono ?_
  rintro e w3 ⟨⟨av', cv', av3, cv3, rfl, hO', -, -⟩, hb3⟩
  replace K1 := K1.old hb3
  replace K2 := K2.old hb3
  have hsep := OI.sepOf hO hO' (Nat.le_refl _)
  have hO2 := hO.later hb3
  have hB3 := old_trans hB2 hb3
  have q1 := hO2
  have q2 := hO'
  clear hb3 C2 k1 k2 k3 k4 hG2 hB2 hO hO' hO2
  obtain ⟨k1, ⟨k2, k3, k4⟩, -⟩ := id K1
  obtain ⟨m1, ⟨m2, m3, m4⟩, m5, m6, m7⟩ := id K2
  by_cases h256 : (lowT A B).length ≤ 256 ∧ (lowU A B).length ≤ 256
  rotate_left
  · have hf := hd (hno.out h256)
    have hc : 256 < ((lowT A B).length : Int) ∨ (((lowT A B).length : Int) ≤ 256 ∧ 256 < ((lowU A B).length : Int)) := by omega
    clear hno hyes h256 hz hnz q1 q2 hsep
    have qT : (0 : Int) ≤ ((lowT A B).length : Int) := by omega
    have qU : (0 : Int) ≤ ((lowU A B).length : Int) := by omega
    generalize hLT : ((lowT A B).length : Int) = LT at *
    generalize hLU : ((lowU A B).length : Int) = LU at *
    rcases hc with hc | ⟨hc0, hc⟩
    · go_wp2
      refine bodyPost_ret (resLow (K2.setAll (.bool false) (.slice none 0 0) (.slice none 0 0)) rfl rfl) rfl ⟨.inr ⟨hf.out, _, rfl⟩, below_set (below_set (below_set hB3 (by omega) _) (by omega) _) (by omega) _⟩
    · go_wp2
      refine bodyPost_ret (resLow (K2.setAll (.bool false) (.slice none 0 0) (.slice none 0 0)) rfl rfl) rfl ⟨.inr ⟨hf.out, _, rfl⟩, below_set (below_set (below_set hB3 (by omega) _) (by omega) _) (by omega) _⟩
  have hf := hd (hyes.out h256.1 h256.2)
  have c1 : ¬ (256 < ((lowT A B).length : Int)) := by omega
  have c2 : ¬ (256 < ((lowU A B).length : Int)) := by omega
  have qT : (0 : Int) ≤ ((lowT A B).length : Int) := by omega
  have qU : (0 : Int) ≤ ((lowU A B).length : Int) := by omega
  have hcase : (bl = false ∧ (bl && decide (A ≠ 0)) = false) ∨ (bl = true ∧ ((lowT A B).length : Int) = 0 ∧ (bl && decide (A ≠ 0)) = false) ∨ (bl = true ∧ 0 < ((lowT A B).length : Int) ∧ (bl && decide (A ≠ 0)) = true) := by
    cases bl
    · exact .inl ⟨rfl, rfl⟩
    · by_cases hA0 : A = 0
      · exact .inr (.inl ⟨rfl, by have := hz.out hA0; omega, by rw [decide_eq_false (by simpa using hA0)]; rfl⟩)
      · exact .inr (.inr ⟨rfl, by have := hnz.out hA0; omega, by rw [decide_eq_true hA0]; rfl⟩)
  clear hno hyes h256 hz hnz
  have w1' := oi_set3 (v0 := .bool (bl && decide (A ≠ 0))) (v1 := .slice av (lowT A B).length cv) (v2 := .slice av' (lowU A B).length cv') q1 hs1
  have w2' := oi_set3 (v0 := .bool (bl && decide (A ≠ 0))) (v1 := .slice av (lowT A B).length cv) (v2 := .slice av' (lowU A B).length cv') q2 hs2
  have hK := K2.setAll (.bool (bl && decide (A ≠ 0))) (.slice av (lowT A B).length cv) (.slice av' (lowU A B).length cv')
  have hBF : Below w.heap.size w (((w3.setCell ⟨w.heap.size + 1, 0, none⟩ (.bool (bl && decide (A ≠ 0)))).setCell ⟨w.heap.size + 1, 1, none⟩ (.slice av (lowT A B).length cv)).setCell ⟨w.heap.size + 1, 2, none⟩ (.slice av' (lowU A B).length cv')) := below_set (below_set (below_set hB3 (by omega) _) (by omega) _) (by omega) _
  replace w1' := w1'.mono (show w.heap.size ≤ w1.heap.size by omega)
  replace w2' := w2'.mono (show w.heap.size ≤ w2.heap.size by omega)
  rcases hcase with ⟨rfl, hv⟩ | ⟨rfl, hl0, hv⟩ | ⟨rfl, hl0, hv⟩
  · have hv' := hd hv
    rw [hv] at hK hBF w1' w2'
    clear hv q1 q2
    go_wp2
    refine bodyPost_ret (resLow hK rfl rfl) rfl ⟨.inl ⟨hf.out, av, cv, av', cv', ?_, w1', w2', hsep⟩, hBF⟩
    exact retF hv'.out
  · have hv' := hd hv
    rw [hv] at hK hBF w1' w2'
    clear hv q1 q2
    go_wp2
    refine bodyPost_ret (resLow hK rfl rfl) rfl ⟨.inl ⟨hf.out, av, cv, av', cv', ?_, w1', w2', hsep⟩, hBF⟩
    exact retF hv'.out
  · replace hv : (true && decide (A ≠ 0)) = decide (0 < (lowT A B).length) := by rw [hv, decide_eq_true (by omega)]
    have hv' := hd hv
    rw [hv] at hK hBF w1' w2'
    clear hv q1 q2
    go_wp2
    refine bodyPost_ret (resLow hK rfl rfl) rfl ⟨.inl ⟨hf.out, av, cv, av', cv', ?_, w1', w2', hsep⟩, hBF⟩
    exact retF hv'.out
end Go.Proofs.YtnjdcaidoffhbaaGreatDoor
