/- Products of ratios: the program. Conditions: digits, 1024 at most. -/
import Derived.Test.YtbcdeddbkckaeaaGreatDoorFO
import Derived.Test.YtbcdeddbkckaeaaGreatDoorFL
namespace Go.Proofs.YtbcdeddbkckaeaaGreatDoor
open Go.RowKit
set_option linter.unusedVariables false
set_option maxRecDepth 100000

theorem resTimes {W : World} {b : Nat} {v0 v1 v2 : Value} {tmps : Array Value} (h : Cel3 W b v0 v1 v2) (ht : tmps[4]? = some (.pointer (some ⟨b, 0, none⟩))) : (results Tryz.f36 tmps).run Tryz.prog W = .ok (.agg #[v0, v1, v2]) W := by
  obtain ⟨h1, ⟨a0, a1, a2⟩, -⟩ := h
  simp [results, Tryz.results36, go_sem, a0, a1, a2, ht]
set_option maxHeartbeats 8000000 in
theorem iTimesR (bl : Bool) (a b : Option Addr) (la lb ca cb : Nat) (xs ys : List Int) (bm : Bool) (c d : Option Addr) (lc ld cc cd : Nat) (us vs : List Int) (w : World) (hA : InI w a la ca xs) (hB : InI w b lb cb ys) (hC : InI w c lc cc us) (hD : InI w d ld cd vs) (dx : digs xs) (dy : digs ys) (du : digs us) (dv : digs vs) (la1 : la ≤ 1024) (lb1 : lb ≤ 1024) (lc1 : lc ≤ 1024) (ld1 : ld ≤ 1024) :
    Calls Tryz.prog 36 #[.agg #[.bool bl, .slice a la ca, .slice b lb cb], .agg #[.bool bm, .slice c lc cc, .slice d ld cd]] w fun e w' => (∃ a1 c1 a2 c2, e = .returned (.agg #[.bool (!(bl == bm)), .slice a1 (natL (val xs * val us)).length c1, .slice a2 (natL (val ys * val vs)).length c2]) ∧ OI w' w.heap.size a1 c1 (natL (val xs * val us)) ∧ OI w' w.heap.size a2 c2 (natL (val ys * val vs))) ∧ Below w.heap.size w w' := by
  have e0 : Below w.heap.size w (((w.alloc (.cells #[.bool bl, .slice a la ca, .slice b lb cb] 53)).alloc (.cells #[.bool bm, .slice c lc cc, .slice d ld cd] 53)).alloc (.cells #[.bool false, .slice none 0 0, .slice none 0 0] 53)) := (by repeat (first | exact Below.refl _ _ | refine Below.drew ?_ | refine old_alloc ?_ _ | refine old_trans ?_ (by assumption)))
  have K1 := ((Cel3.new w (.bool bl) (.slice a la ca) (.slice b lb cb) 53).old (old_alloc (Below.refl _ _) (.cells #[.bool bm, .slice c lc cc, .slice d ld cd] 53))).old (old_alloc (Below.refl _ _) (.cells #[.bool false, .slice none 0 0, .slice none 0 0] 53))
  have K2 := (Cel3.new (w.alloc (.cells #[.bool bl, .slice a la ca, .slice b lb cb] 53)) (.bool bm) (.slice c lc cc) (.slice d ld cd) 53).old (old_alloc (Below.refl _ _) (.cells #[.bool false, .slice none 0 0, .slice none 0 0] 53))
  have K3 := Cel3.new ((w.alloc (.cells #[.bool bl, .slice a la ca, .slice b lb cb] 53)).alloc (.cells #[.bool bm, .slice c lc cc, .slice d ld cd] 53)) (.bool false) (.slice none 0 0) (.slice none 0 0) 53
  simp only [World.size_alloc] at K2 K3
  have T1 := hd (fun w' (h : Below w.heap.size w w') => iTimes a c la lc ca cc xs us w' (hA.old h) (hC.old h) dx du (by omega) (by omega))
  have T2 := hd (fun w' (h : Below w.heap.size w w') => iTimes b d lb ld cb cd ys vs w' (hB.old h) (hD.old h) dy dv (by omega) (by omega))
  clear hA hB hC hD dx dy du dv la1 lb1 lc1 ld1
  generalize natL (val xs * val us) = tl at *
  generalize natL (val ys * val vs) = ul at *
  go_enter Tryz.func36, Tryz.ntmps36
  go_wp2_with fail
  generalize hW1 : (((w.alloc (.cells #[.bool bl, .slice a la ca, .slice b lb cb] 53)).alloc (.cells #[.bool bm, .slice c lc cc, .slice d ld cd] 53)).alloc (.cells #[.bool false, .slice none 0 0, .slice none 0 0] 53)) = w1 at *
  clear hW1
  have hk : w1.cell? ⟨w.heap.size, 0, none⟩ = some (.bool bl) ∧ w1.cell? ⟨w.heap.size, 1, none⟩ = some (.slice a la ca) ∧ w1.cell? ⟨w.heap.size, 2, none⟩ = some (.slice b lb cb) ∧ w1.cell? ⟨w.heap.size + 1, 0, none⟩ = some (.bool bm) ∧ w1.cell? ⟨w.heap.size + 1, 1, none⟩ = some (.slice c lc cc) ∧ w1.cell? ⟨w.heap.size + 1, 2, none⟩ = some (.slice d ld cd) := ⟨K1.c0, K1.c1, K1.c2, K2.c0, K2.c1, K2.c2⟩
  obtain ⟨k0, k1, k2, k3, k4, k5⟩ := id hk
  have U1 := hd (fun w' (hS : w'.cell? ⟨w.heap.size, 0, none⟩ = some (.bool bl) ∧ w'.cell? ⟨w.heap.size, 1, none⟩ = some (.slice a la ca) ∧ w'.cell? ⟨w.heap.size, 2, none⟩ = some (.slice b lb cb) ∧ w'.cell? ⟨w.heap.size + 1, 0, none⟩ = some (.bool bm) ∧ w'.cell? ⟨w.heap.size + 1, 1, none⟩ = some (.slice c lc cc) ∧ w'.cell? ⟨w.heap.size + 1, 2, none⟩ = some (.slice d ld cd)) (h : Below w1.heap.size w1 w') => (T1.out w' (old_trans e0 h)).mono (fun e w'' (k : _ ∧ _) => (⟨k, six_old hS k.2⟩ : (_ ∧ _) ∧ (w''.cell? ⟨w.heap.size, 0, none⟩ = some (.bool bl) ∧ w''.cell? ⟨w.heap.size, 1, none⟩ = some (.slice a la ca) ∧ w''.cell? ⟨w.heap.size, 2, none⟩ = some (.slice b lb cb) ∧ w''.cell? ⟨w.heap.size + 1, 0, none⟩ = some (.bool bm) ∧ w''.cell? ⟨w.heap.size + 1, 1, none⟩ = some (.slice c lc cc) ∧ w''.cell? ⟨w.heap.size + 1, 2, none⟩ = some (.slice d ld cd)))))
  have U2 := hd (fun w' (hS : w'.cell? ⟨w.heap.size, 0, none⟩ = some (.bool bl) ∧ w'.cell? ⟨w.heap.size, 1, none⟩ = some (.slice a la ca) ∧ w'.cell? ⟨w.heap.size, 2, none⟩ = some (.slice b lb cb) ∧ w'.cell? ⟨w.heap.size + 1, 0, none⟩ = some (.bool bm) ∧ w'.cell? ⟨w.heap.size + 1, 1, none⟩ = some (.slice c lc cc) ∧ w'.cell? ⟨w.heap.size + 1, 2, none⟩ = some (.slice d ld cd)) (h : Below w1.heap.size w1 w') => (T2.out w' (old_trans e0 h)).mono (fun e w'' (k : _ ∧ _) => (⟨k, six_old hS k.2⟩ : (_ ∧ _) ∧ (w''.cell? ⟨w.heap.size, 0, none⟩ = some (.bool bl) ∧ w''.cell? ⟨w.heap.size, 1, none⟩ = some (.slice a la ca) ∧ w''.cell? ⟨w.heap.size, 2, none⟩ = some (.slice b lb cb) ∧ w''.cell? ⟨w.heap.size + 1, 0, none⟩ = some (.bool bm) ∧ w''.cell? ⟨w.heap.size + 1, 1, none⟩ = some (.slice c lc cc) ∧ w''.cell? ⟨w.heap.size + 1, 2, none⟩ = some (.slice d ld cd)))))
  have ne1 : w.heap.size + 1 + 1 ≠ w.heap.size := by omega
  have ne2 : w.heap.size + 1 + 1 ≠ w.heap.size + 1 := by omega
  clear T1 T2 K1 K2
  go_region_held3 (fun w' => w'.cell? ⟨w.heap.size, 0, none⟩ = some (.bool bl) ∧ w'.cell? ⟨w.heap.size, 1, none⟩ = some (.slice a la ca) ∧ w'.cell? ⟨w.heap.size, 2, none⟩ = some (.slice b lb cb) ∧ w'.cell? ⟨w.heap.size + 1, 0, none⟩ = some (.bool bm) ∧ w'.cell? ⟨w.heap.size + 1, 1, none⟩ = some (.slice c lc cc) ∧ w'.cell? ⟨w.heap.size + 1, 2, none⟩ = some (.slice d ld cd)) (go_keep) (first | (go_at_call 60; with_reducible refine (U1.out _ (by assumption) (by repeat (first | exact Below.refl _ _ | refine Below.drew ?_ | refine old_trans ?_ (by assumption)))).mono ?_; rintro e w4 ⟨⟨⟨avT, cvT, rfl, hT1⟩, hb4⟩, hc4⟩) | (go_at_call 60; with_reducible refine (U2.out _ (by assumption) (by repeat (first | exact Below.refl _ _ | refine Below.drew ?_ | refine old_trans ?_ (by assumption)))).mono ?_; rintro e w5 ⟨⟨⟨avU, cvU, rfl, hT2⟩, hb5⟩, hc5⟩; have K5 := (K3.drew.old hb4).old hb5; have n2 := K5.c0; have n3 := K5.c1; have n4 := K5.c2; have n5 := K5.f0; have n6 := K5.f1; have n7 := K5.f2))
  all_goals
    have hs0 : w.heap.size + 1 + 1 < w1.drew.heap.size := K3.1
    have hs1 : w.heap.size + 1 + 1 < w4.heap.size := Nat.lt_of_lt_of_le hs0 hb4.size
    have o1 := (oi_set3 (v0 := .bool (!(bl == bm))) (v1 := .slice avT tl.length cvT) (v2 := .slice avU ul.length cvU) (hT1.later hb5) hs0).mono (show w.heap.size ≤ _ by omega)
    have o2 := (oi_set3 (v0 := .bool (!(bl == bm))) (v1 := .slice avT tl.length cvT) (v2 := .slice avU ul.length cvU) hT2 hs1).mono (show w.heap.size ≤ _ by omega)
    have hBF : Below w.heap.size w w5 := old_trans (old_trans e0.drew hb4) hb5
    have hK := K5.setAll (.bool (!(bl == bm))) (.slice avT tl.length cvT) (.slice avU ul.length cvU)
    clear hT1 hT2
    go_wp2
    exact bodyPost_ret (resTimes hK rfl) rfl ⟨⟨_, _, _, _, rfl, o1, o2⟩, below_set (below_set (below_set hBF (by omega) _) (by omega) _) (by omega) _⟩
end Go.Proofs.YtbcdeddbkckaeaaGreatDoor
