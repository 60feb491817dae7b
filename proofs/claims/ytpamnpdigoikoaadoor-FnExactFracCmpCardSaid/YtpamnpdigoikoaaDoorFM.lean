/- Fractions without their sign: the specification. No condition. -/
import Derived.Test.YtpamnpdigoikoaaDoorFK
namespace Go.Proofs.YtpamnpdigoikoaaDoor
open Go.RowKit
set_option linter.unusedVariables false
set_option maxRecDepth 100000

theorem Cel3.c0 {w : World} {b : Nat} {v0 v1 v2 : Value} (h : Cel3 w b v0 v1 v2) : w.cell? ⟨b, 0, none⟩ = some v0 := h.2.1.1
theorem Cel3.c1 {w : World} {b : Nat} {v0 v1 v2 : Value} (h : Cel3 w b v0 v1 v2) : w.cell? ⟨b, 1, none⟩ = some v1 := h.2.1.2.1
theorem Cel3.c2 {w : World} {b : Nat} {v0 v1 v2 : Value} (h : Cel3 w b v0 v1 v2) : w.cell? ⟨b, 2, none⟩ = some v2 := h.2.1.2.2
theorem Cel3.f0 {w : World} {b : Nat} {v0 v1 v2 : Value} (h : Cel3 w b v0 v1 v2) : w.frozen? ⟨b, 0, none⟩ = false := h.2.2.1
theorem Cel3.f1 {w : World} {b : Nat} {v0 v1 v2 : Value} (h : Cel3 w b v0 v1 v2) : w.frozen? ⟨b, 1, none⟩ = false := h.2.2.2.1
theorem Cel3.f2 {w : World} {b : Nat} {v0 v1 v2 : Value} (h : Cel3 w b v0 v1 v2) : w.frozen? ⟨b, 2, none⟩ = false := h.2.2.2.2
theorem Cel3.drew {w : World} {b : Nat} {v0 v1 v2 : Value} (h : Cel3 w b v0 v1 v2) : Cel3 w.drew b v0 v1 v2 := h
theorem three_old {w' w'' : World} {B : Nat} {v0 v1 v2 : Value} (hS : w'.cell? ⟨B, 0, none⟩ = some v0 ∧ w'.cell? ⟨B, 1, none⟩ = some v1 ∧ w'.cell? ⟨B, 2, none⟩ = some v2) (k : Below w'.heap.size w' w'') : w''.cell? ⟨B, 0, none⟩ = some v0 ∧ w''.cell? ⟨B, 1, none⟩ = some v1 ∧ w''.cell? ⟨B, 2, none⟩ = some v2 := by
  have q1 : B < w'.heap.size := cell_lt hS.1
  exact ⟨(k.cell (p := ⟨B, 0, none⟩) q1).trans hS.1, (k.cell (p := ⟨B, 1, none⟩) q1).trans hS.2.1, (k.cell (p := ⟨B, 2, none⟩) q1).trans hS.2.2⟩
theorem resFracAbsS {W : World} {b : Nat} {v0 v1 v2 r : Value} {tmps : Array Value} (h : Cel3 W b v0 v1 v2) (ht : tmps[2]? = some (.pointer (some ⟨b, 0, none⟩))) (h3 : tmps[3]? = some r) : (results Tryd.f36 tmps).run Tryd.prog W = .ok (.tuple #[.agg #[v0, v1, v2], r]) W := by
  obtain ⟨h1, ⟨a0, a1, a2⟩, -⟩ := h
  simp [results, Tryd.results36, go_sem, a0, a1, a2, ht, h3]
set_option maxHeartbeats 8000000 in
theorem sFracAbs (bl : Bool) (a b : Option Addr) (la lb ca cb : Nat) (xs ys : List Int) (w : World) (hA : InI w a la ca xs) (hB : InI w b lb cb ys) :
    Calls Tryd.prog 36 #[.agg #[.bool bl, .slice a la ca, .slice b lb cb]] w fun e w' => FRes w' w.heap.size e (fracOk bl xs ys) false (val xs) (val ys) ∧ Below w.heap.size w w' := by
  have e0 : Below w.heap.size w ((w.alloc (.cells #[.bool bl, .slice a la ca, .slice b lb cb] 38)).alloc (.cells #[.bool false, .slice none 0 0, .slice none 0 0] 38)) := (by repeat (first | exact Below.refl _ _ | refine Below.drew ?_ | refine old_alloc ?_ _ | refine old_trans ?_ (by assumption)))
  have K1 := (Cel3.new w (.bool bl) (.slice a la ca) (.slice b lb cb) 38).old (old_alloc (Below.refl _ _) (.cells #[.bool false, .slice none 0 0, .slice none 0 0] 38))
  have K2 := Cel3.new (w.alloc (.cells #[.bool bl, .slice a la ca, .slice b lb cb] 38)) (.bool false) (.slice none 0 0) (.slice none 0 0) 38
  simp only [World.size_alloc] at K2
  have O := hd (sFracOk bl a b la lb ca cb xs ys _ (hA.old e0) (hB.old e0))
  cases hf : fracOk bl xs ys
  · rw [hf] at O
    clear hf
    go_enter Tryd.func36, Tryd.ntmps36
    go_wp2_with fail
    refine O.out.mono ?_
    rintro e w1 ⟨rfl, hb1⟩
    replace K2 := K2.old hb1
    have hB1 := old_trans e0 hb1
    obtain ⟨m1, ⟨m2, m3, m4⟩, m5, m6, m7⟩ := id K2
    go_wp2
    exact bodyPost_ret (resFracAbsS (K2.setAll (.bool false) (.slice none 0 0) (.slice none 0 0)) rfl rfl) rfl ⟨FRes.no _ _ _ _ _, below_set (below_set (below_set hB1 (by omega) _) (by omega) _) (by omega) _⟩
  rw [hf] at O
  have q := fracOk_in hf
  have q1 := natOk_in q.1
  have q2 := natOk_in q.2.1
  have eA := natOk_canon q.1
  have eB := natOk_canon q.2.1
  have lw := fracOk_low hf
  obtain rfl : xs.length = la := hA.1
  obtain rfl : ys.length = lb := hB.1
  have hfin : Hid (∀ (W : World) (n : Nat) (av av' : Option Addr) (cv cv' : Nat), OI W n av cv xs → OI W n av' cv' ys → Sep av av' → FRes W n (.returned (.tuple #[.agg #[.bool false, .slice av xs.length cv, .slice av' ys.length cv'], .bool true])) true false (val xs) (val ys)) := by
    intro W n av av' cv cv' h1 h2 h3
    have := FRes.yes (s := false) (A := val xs) (B := val ys) (by rw [lw.2.1]; exact h1) (by rw [lw.2.2]; exact h2) h3
    rw [lw.2.1, lw.2.2] at this
    exact this
  have T1 := hd (fun w' (h : Below w.heap.size w w') => sTrim a _ ca xs w' (hA.old h) q1.2.1 (by omega))
  have T2 := hd (fun w' (h : Below w.heap.size w w') => sTrim b _ cb ys w' (hB.old h) q2.2.1 (by omega))
  rw [eA] at T1
  rw [eB] at T2
  clear hA hB hf q q1 q2 eA eB lw
  generalize val xs = A at *
  generalize val ys = B at *
  generalize hla : xs.length = la at *
  generalize hlb : ys.length = lb at *
  go_enter Tryd.func36, Tryd.ntmps36
  go_wp2_with fail
  refine O.out.mono ?_
  rintro e w1 ⟨rfl, hb1⟩
  replace K1 := K1.old hb1
  replace K2 := K2.old hb1
  have hB1 := old_trans e0 hb1
  clear hb1 e0 O
  obtain ⟨k1, ⟨k2, k3, k4⟩, -⟩ := id K1
  obtain ⟨m1, ⟨m2, m3, m4⟩, m5, m6, m7⟩ := id K2
  have U1 := hd (fun w' (hS : w'.cell? ⟨w.heap.size, 0, none⟩ = some (.bool bl) ∧ w'.cell? ⟨w.heap.size, 1, none⟩ = some (.slice a la ca) ∧ w'.cell? ⟨w.heap.size, 2, none⟩ = some (.slice b lb cb)) (h : Below w1.heap.size w1 w') => (T1.out w' (old_trans hB1 h)).mono (fun e w'' (k : _ ∧ _) => (⟨k, three_old hS k.2⟩ : (_ ∧ _) ∧ (w''.cell? ⟨w.heap.size, 0, none⟩ = some (.bool bl) ∧ w''.cell? ⟨w.heap.size, 1, none⟩ = some (.slice a la ca) ∧ w''.cell? ⟨w.heap.size, 2, none⟩ = some (.slice b lb cb)))))
  have U2 := hd (fun w' (hS : w'.cell? ⟨w.heap.size, 0, none⟩ = some (.bool bl) ∧ w'.cell? ⟨w.heap.size, 1, none⟩ = some (.slice a la ca) ∧ w'.cell? ⟨w.heap.size, 2, none⟩ = some (.slice b lb cb)) (h : Below w1.heap.size w1 w') => (T2.out w' (old_trans hB1 h)).mono (fun e w'' (k : _ ∧ _) => (⟨k, three_old hS k.2⟩ : (_ ∧ _) ∧ (w''.cell? ⟨w.heap.size, 0, none⟩ = some (.bool bl) ∧ w''.cell? ⟨w.heap.size, 1, none⟩ = some (.slice a la ca) ∧ w''.cell? ⟨w.heap.size, 2, none⟩ = some (.slice b lb cb)))))
  go_wp2_with fail
  go_region_held3 (fun w' => w'.cell? ⟨w.heap.size, 0, none⟩ = some (.bool bl) ∧ w'.cell? ⟨w.heap.size, 1, none⟩ = some (.slice a la ca) ∧ w'.cell? ⟨w.heap.size, 2, none⟩ = some (.slice b lb cb)) (go_keep) (first | (go_at_call 65; with_reducible refine (U1.out _ (by assumption) (by repeat (first | exact Below.refl _ _ | refine Below.drew ?_ | refine old_trans ?_ (by assumption)))).mono ?_; rintro e w4 ⟨⟨⟨avT, cvT, rfl, hT1⟩, hb4⟩, hc4⟩) | (go_at_call 65; with_reducible refine (U2.out _ (by assumption) (by repeat (first | exact Below.refl _ _ | refine Below.drew ?_ | refine old_trans ?_ (by assumption)))).mono ?_; rintro e w5 ⟨⟨⟨avU, cvU, rfl, hT2⟩, hb5⟩, hc5⟩; have K5 := (K2.drew.old hb4).old hb5; have n2 := K5.c0; have n3 := K5.c1; have n4 := K5.c2; have n5 := K5.f0; have n6 := K5.f1; have n7 := K5.f2))
  all_goals
    have hs0 : w.heap.size + 1 < w1.drew.heap.size := m1
    have hs1 : w.heap.size + 1 < w4.heap.size := Nat.lt_of_lt_of_le hs0 hb4.size
    have o1 := (oi_set3 (v0 := .bool false) (v1 := .slice avT la cvT) (v2 := .slice avU lb cvU) (hT1.later hb5) hs0).mono (show w.heap.size ≤ _ by omega)
    have o2 := (oi_set3 (v0 := .bool false) (v1 := .slice avT la cvT) (v2 := .slice avU lb cvU) hT2 hs1).mono (show w.heap.size ≤ _ by omega)
    have hF := hd (hfin.out _ _ _ _ _ _ o1 o2 (OI.sepOf hT1 hT2 (Nat.le_refl _)))
    have hBF : Below w.heap.size w w5 := old_trans (old_trans hB1.drew hb4) hb5
    clear hfin o1 o2 hT1 hT2
    go_wp2
    exact bodyPost_ret (resFracAbsS (K5.setAll (.bool false) (.slice avT la cvT) (.slice avU lb cvU)) rfl rfl) rfl ⟨hF.out, below_set (below_set (below_set hBF (by omega) _) (by omega) _) (by omega) _⟩
end Go.Proofs.YtpamnpdigoikoaaDoor
