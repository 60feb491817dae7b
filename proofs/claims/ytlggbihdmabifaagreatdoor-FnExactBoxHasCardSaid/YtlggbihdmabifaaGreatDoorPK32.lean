/- Two numbers with a sign, compared by the specification; the parts of a float. Conditions: numbers of 100,000 digits at most. Nothing that was there is written. -/
import Derived.Test.YtlggbihdmabifaaGreatDoorPK30
import Derived.Test.YtlggbihdmabifaaGreatDoorPK31
import Derived.Deep.RegionHeld3
namespace Go.Proofs.YtlggbihdmabifaaGreatDoor
open Go.RowKit
set_option linter.unusedVariables false
set_option maxRecDepth 100000

theorem rI_h {b c : Int} (h : c = b) : Ending.returned (.int .i64 b) = .returned (.int .i64 c) := by rw [h]
def cmpS (g1 : Bool) (x : Nat) (g2 : Bool) (y : Nat) : Int :=
  if x = 0 ∧ y = 0 then 0 else if g1 = true ∧ x ≠ 0 then (if g2 = true ∧ y ≠ 0 then cmpI y x else -1) else if g2 = true ∧ y ≠ 0 then 1 else cmpI x y
theorem sCmpH (a b : Option Addr) (ca cb X Y : Nat) (w : World) (hA : InI w a (natL X).length ca (natL X)) (hB : InI w b (natL Y).length cb (natL Y)) :
    Calls Tryz.prog 45 #[.slice a (natL X).length ca, .slice b (natL Y).length cb] w fun e w' => e = .returned (.int .i64 (cmpI X Y)) ∧ Below w.heap.size w w' := by
  have := sCmp a b _ _ ca cb _ _ w hA hB (digs_natL X) (digs_natL Y) (topped_natL X) (topped_natL Y)
  rw [val_natL, val_natL] at this
  exact this
theorem lenH (X : Nat) : ((natL X).length : Int) = 0 ↔ X = 0 := by
  constructor
  · intro h
    rcases Nat.eq_zero_or_pos X with h' | h'
    · exact h'
    · have := natL_length_pos h'; omega
  · intro h; subst h; rw [natL_zero]; rfl
theorem six_oldH {w' w'' : World} {b b' : Nat} {v0 v1 v2 v3 v4 v5 : Value} (h1 : w'.cell? ⟨b, 0, none⟩ = some v0 ∧ w'.cell? ⟨b, 1, none⟩ = some v1 ∧ w'.cell? ⟨b, 2, none⟩ = some v2) (h2 : w'.cell? ⟨b', 0, none⟩ = some v3 ∧ w'.cell? ⟨b', 1, none⟩ = some v4 ∧ w'.cell? ⟨b', 2, none⟩ = some v5) (k : Below w'.heap.size w' w'') :
    (w''.cell? ⟨b, 0, none⟩ = some v0 ∧ w''.cell? ⟨b, 1, none⟩ = some v1 ∧ w''.cell? ⟨b, 2, none⟩ = some v2) ∧ w''.cell? ⟨b', 0, none⟩ = some v3 ∧ w''.cell? ⟨b', 1, none⟩ = some v4 ∧ w''.cell? ⟨b', 2, none⟩ = some v5 := by
  obtain ⟨a1, a2, a3⟩ := h1
  obtain ⟨a4, a5, a6⟩ := h2
  exact ⟨⟨(k.cell (World.block_lt_of_cell? _ _ a1)).trans a1, (k.cell (World.block_lt_of_cell? _ _ a2)).trans a2, (k.cell (World.block_lt_of_cell? _ _ a3)).trans a3⟩, (k.cell (World.block_lt_of_cell? _ _ a4)).trans a4, (k.cell (World.block_lt_of_cell? _ _ a5)).trans a5, (k.cell (World.block_lt_of_cell? _ _ a6)).trans a6⟩
set_option maxHeartbeats 4000000 in
theorem sL8Cmp (g1 g2 : Bool) (a b c d : Option Addr) (ca cb cc cd A B C E : Nat) (w : World) (hA : InI w a (natL A).length ca (natL A)) (hB : InI w b (natL B).length cb (natL B)) (hC : InI w c (natL C).length cc (natL C)) (hE : InI w d (natL E).length cd (natL E))
    (lA : (natL A).length ≤ 2000) (lB : (natL B).length ≤ 2000) (lC : (natL C).length ≤ 2000) (lE : (natL E).length ≤ 2000) :
    Calls Tryz.prog 28 #[.agg #[.bool g1, .slice a (natL A).length ca, .slice b (natL B).length cb], .agg #[.bool g2, .slice c (natL C).length cc, .slice d (natL E).length cd]] w fun e w' => e = .returned (.int .i64 (cmpS g1 (E * A) g2 (B * C))) ∧ Below w.heap.size w w' := by
  have e0 : Below w.heap.size w ((w.alloc (.cells #[.bool g1, .slice a (natL A).length ca, .slice b (natL B).length cb] 60)).alloc (.cells #[.bool g2, .slice c (natL C).length cc, .slice d (natL E).length cd] 60)) := old_alloc (old_alloc (Below.refl _ _) _) _
  have M1 := hd (sMulN a d ca cd A E _ (hA.old e0) (hE.old e0) (by omega) (by omega))
  have M2 := hd (fun w' (h : Below w.heap.size w w') => sMulN c b cc cb C B w' (hC.old h) (hB.old h) (by omega) (by omega))
  have k1 : ((w.alloc (.cells #[.bool g1, .slice a (natL A).length ca, .slice b (natL B).length cb] 60)).alloc (.cells #[.bool g2, .slice c (natL C).length cc, .slice d (natL E).length cd] 60)).cell? ⟨w.heap.size, 0, none⟩ = some (.bool g1) ∧ ((w.alloc (.cells #[.bool g1, .slice a (natL A).length ca, .slice b (natL B).length cb] 60)).alloc (.cells #[.bool g2, .slice c (natL C).length cc, .slice d (natL E).length cd] 60)).cell? ⟨w.heap.size, 1, none⟩ = some (.slice a (natL A).length ca) ∧ ((w.alloc (.cells #[.bool g1, .slice a (natL A).length ca, .slice b (natL B).length cb] 60)).alloc (.cells #[.bool g2, .slice c (natL C).length cc, .slice d (natL E).length cd] 60)).cell? ⟨w.heap.size, 2, none⟩ = some (.slice b (natL B).length cb) := by simp
  have k2 : ((w.alloc (.cells #[.bool g1, .slice a (natL A).length ca, .slice b (natL B).length cb] 60)).alloc (.cells #[.bool g2, .slice c (natL C).length cc, .slice d (natL E).length cd] 60)).cell? ⟨w.heap.size + 1, 0, none⟩ = some (.bool g2) ∧ ((w.alloc (.cells #[.bool g1, .slice a (natL A).length ca, .slice b (natL B).length cb] 60)).alloc (.cells #[.bool g2, .slice c (natL C).length cc, .slice d (natL E).length cd] 60)).cell? ⟨w.heap.size + 1, 1, none⟩ = some (.slice c (natL C).length cc) ∧ ((w.alloc (.cells #[.bool g1, .slice a (natL A).length ca, .slice b (natL B).length cb] 60)).alloc (.cells #[.bool g2, .slice c (natL C).length cc, .slice d (natL E).length cd] 60)).cell? ⟨w.heap.size + 1, 2, none⟩ = some (.slice d (natL E).length cd) := by simp
  have C1 := hd (fun p q cp cq w (h1 : InI w p (natL (B * C)).length cp (natL (B * C))) (h2 : InI w q (natL (E * A)).length cq (natL (E * A))) => sCmpH p q cp cq (B * C) (E * A) w h1 h2)
  have C2 := hd (fun p q cp cq w (h1 : InI w p (natL (E * A)).length cp (natL (E * A))) (h2 : InI w q (natL (B * C)).length cq (natL (B * C))) => sCmpH p q cp cq (E * A) (B * C) w h1 h2)
  have zx := lenH (E * A)
  have zy := lenH (B * C)
  obtain ⟨res, hres⟩ : ∃ r, cmpS g1 (E * A) g2 (B * C) = r := ⟨_, rfl⟩
  rw [hres]
  unfold cmpS at hres
  clear hA hB hC hE lA lB lC lE
  generalize (natL A).length = nA at *
  generalize (natL B).length = nB at *
  generalize (natL C).length = nC at *
  generalize (natL E).length = nE at *
  generalize E * A = x at *
  generalize B * C = y at *
  go_enter Tryz.func28, Tryz.ntmps28
  obtain ⟨k10, k11, k12⟩ := id k1
  obtain ⟨k20, k21, k22⟩ := id k2
  go_wp2_with fail
  refine M1.out.mono ?_
  rintro e w1 ⟨⟨px, cx, rfl, ox⟩, hb1⟩
  have q1 := six_oldH k1 k2 hb1
  clear k10 k11 k12 k20 k21 k22 k1 k2
  obtain ⟨k10, k11, k12⟩ := id q1.1
  obtain ⟨k20, k21, k22⟩ := id q1.2
  have B1 := old_trans e0 hb1
  clear e0 hb1 M1
  go_wp2_with fail
  refine (M2.out _ B1).mono ?_
  rintro e w2 ⟨⟨py, cy, rfl, oy⟩, hb2⟩
  have q2 := six_oldH q1.1 q1.2 hb2
  clear k10 k11 k12 k20 k21 k22
  obtain ⟨k10, k11, k12⟩ := q2.1
  obtain ⟨k20, k21, k22⟩ := q2.2
  have B2 := old_trans B1 hb2
  have ix := (ox.later hb2).inI
  have iy := oy.inI
  clear q1 q2 B1 hb2 M2 ox oy
  have P1 := hd (C1.out _ _ _ _ _ iy ix)
  have P2 := hd (C2.out _ _ _ _ _ ix iy)
  clear C1 C2 ix iy
  generalize cmpI y x = c1 at *
  generalize cmpI x y = c2 at *
  by_cases hx : x = 0
  · have zx' := zx.2 hx
    subst hx
    by_cases hy : y = 0
    · have zy' := zy.2 hy
      subst hy
      clear zx zy P1 P2
      rw [if_pos ⟨rfl, rfl⟩] at hres
      have hq := hd hres
      clear hres
      go_wp2
      go_ret
      exact ⟨rI_h hq.out.symm, B2⟩
    · have ny : 0 < ((natL y).length : Int) := by have : ¬ ((natL y).length : Int) = 0 := fun h => hy (zy.1 h); omega
      have ny' : ¬ ((natL y).length : Int) = 0 := by omega
      clear zx zy
      rw [if_neg (fun h => hy h.2), if_neg (fun h => h.2 rfl)] at hres
      generalize (natL 0).length = l0 at *
      generalize (natL y).length = ly at *
      cases g1
      · cases g2
        · rw [if_neg (by simp)] at hres
          clear P1
          have hq := hd hres
          clear hres
          go_wp2_with fail
          refine P2.out.mono ?_
          rintro e w3 ⟨rfl, hb3⟩
          go_wp2
          go_ret
          exact ⟨rI_h hq.out.symm, old_trans B2 hb3⟩
        · rw [if_pos ⟨rfl, hy⟩] at hres
          clear P1 P2
          have hq := hd hres
          clear hres
          go_wp2
          go_ret
          exact ⟨rI_h hq.out.symm, B2⟩
      · cases g2
        · rw [if_neg (by simp)] at hres
          clear P1
          have hq := hd hres
          clear hres
          go_wp2_with fail
          refine P2.out.mono ?_
          rintro e w3 ⟨rfl, hb3⟩
          go_wp2
          go_ret
          exact ⟨rI_h hq.out.symm, old_trans B2 hb3⟩
        · rw [if_pos ⟨rfl, hy⟩] at hres
          clear P1 P2
          have hq := hd hres
          clear hres
          go_wp2
          go_ret
          exact ⟨rI_h hq.out.symm, B2⟩
  · have nx : 0 < ((natL x).length : Int) := by have : ¬ ((natL x).length : Int) = 0 := fun h => hx (zx.1 h); omega
    have nx' : ((natL x).length : Int) ≠ 0 := by omega
    have nxb : (((natL x).length : Int) == 0) = false := beq_eq_false_iff_ne.2 nx'
    by_cases hy : y = 0
    · have zy' := zy.2 hy
      subst hy
      clear zx zy
      rw [if_neg (fun h => hx h.1)] at hres
      generalize (natL x).length = lx at *
      generalize (natL 0).length = l0 at *
      cases g1
      · rw [if_neg (by simp), if_neg (fun h => h.2 rfl)] at hres
        cases g2
        · clear P1
          have hq := hd hres
          clear hres
          go_wp2_with fail
          refine P2.out.mono ?_
          rintro e w3 ⟨rfl, hb3⟩
          go_wp2
          go_ret
          exact ⟨rI_h hq.out.symm, old_trans B2 hb3⟩
        · clear P1
          have hq := hd hres
          clear hres
          go_wp2_with fail
          refine P2.out.mono ?_
          rintro e w3 ⟨rfl, hb3⟩
          go_wp2
          go_ret
          exact ⟨rI_h hq.out.symm, old_trans B2 hb3⟩
      · rw [if_pos ⟨rfl, hx⟩, if_neg (fun h => h.2 rfl)] at hres
        clear P1 P2
        cases g2
        · have hq := hd hres
          clear hres
          go_wp2
          go_ret
          exact ⟨rI_h hq.out.symm, B2⟩
        · have hq := hd hres
          clear hres
          go_wp2
          go_ret
          exact ⟨rI_h hq.out.symm, B2⟩
    · have ny : 0 < ((natL y).length : Int) := by have : ¬ ((natL y).length : Int) = 0 := fun h => hy (zy.1 h); omega
      clear zx zy
      rw [if_neg (fun h => hx h.1)] at hres
      generalize (natL x).length = lx at *
      generalize (natL y).length = ly at *
      cases g1
      · rw [if_neg (by simp)] at hres
        cases g2
        · rw [if_neg (by simp)] at hres
          clear P1
          have hq := hd hres
          clear hres
          go_wp2_with fail
          refine P2.out.mono ?_
          rintro e w3 ⟨rfl, hb3⟩
          go_wp2
          go_ret
          exact ⟨rI_h hq.out.symm, old_trans B2 hb3⟩
        · rw [if_pos ⟨rfl, hy⟩] at hres
          clear P1 P2
          have hq := hd hres
          clear hres
          go_wp2
          go_ret
          exact ⟨rI_h hq.out.symm, B2⟩
      · rw [if_pos ⟨rfl, hx⟩] at hres
        cases g2
        · rw [if_neg (by simp)] at hres
          clear P1 P2
          have hq := hd hres
          clear hres
          go_wp2
          go_ret
          exact ⟨rI_h hq.out.symm, B2⟩
        · rw [if_pos ⟨rfl, hy⟩] at hres
          clear P2
          have hq := hd hres
          clear hres
          go_wp2_with fail
          refine P1.out.mono ?_
          rintro e w3 ⟨rfl, hb3⟩
          go_wp2
          go_ret
          exact ⟨rI_h hq.out.symm, old_trans B2 hb3⟩
end Go.Proofs.YtlggbihdmabifaaGreatDoor

/- Mathematics: bounds of pairs against fractions, with signs, at each width. Conditions: numbers of 256 digits at most. -/
namespace Go.Proofs.YtlggbihdmabifaaGreatDoor
open Go.RowKit
set_option linter.unusedVariables false
set_option maxRecDepth 100000

theorem cmpI_le (a b : Nat) : cmpI a b ≤ 0 ↔ a ≤ b := by
  unfold cmpI
  by_cases h : a < b
  · rw [if_pos h]; constructor <;> intro _ <;> omega
  · rw [if_neg h]
    by_cases g : b < a
    · rw [if_pos g]; constructor <;> intro _ <;> omega
    · rw [if_neg g]; constructor <;> intro _ <;> omega
theorem v_uN (A : Nat) (p : Int) : vB p * A = uN A p := by
  unfold vB uN
  by_cases h : 0 ≤ p
  · rw [if_pos h, if_neg (by omega), Nat.one_mul]
  · rw [if_neg h, if_pos (by omega)]
theorem v_uD (B s : Nat) (p : Int) : B * vA s p = s * uD B p := by
  unfold vA uD
  by_cases h : 0 ≤ p
  · rw [if_pos h, if_neg (by omega), Nat.mul_comm B, Nat.mul_assoc, Nat.mul_comm (2 ^ p.toNat), Nat.mul_assoc, Nat.mul_comm B]
  · rw [if_neg h, if_pos (by omega), Nat.mul_comm]
theorem lo_sign {x y m : Nat} {M t n : Int} {bg : Bool} (L1 : x ≤ y ↔ (m : Int) ≤ M) (L2 : y ≤ x ↔ M + t ≤ (m : Int)) (hx : x = 0 ↔ m = 0) (hy : bg = true → y ≠ 0) (hM : 0 ≤ M) (ht : 0 ≤ t) (hn : n.natAbs = m) :
    cmpS (decide (n < 0)) x bg y ≤ 0 ↔ n ≤ (if bg = true then -(M + t) else M) := by
  have c1 := cmpI_le y x
  have c2 := cmpI_le x y
  unfold cmpS
  by_cases g : n < 0
  · have x0 : x ≠ 0 := fun h => by have := hx.1 h; omega
    rw [decide_eq_true g, if_neg (fun h => x0 h.1), if_pos ⟨rfl, x0⟩]
    cases bg
    · rw [if_neg (by simp), if_neg (by simp)]
      constructor <;> intro _ <;> omega
    · rw [if_pos ⟨rfl, hy rfl⟩, if_pos rfl, c1, L2]
      constructor <;> intro _ <;> omega
  · rw [decide_eq_false g]
    cases bg
    · rw [if_neg (c := false = true ∧ x ≠ 0) (by simp), if_neg (c := false = true ∧ y ≠ 0) (by simp), if_neg (c := false = true) (by simp)]
      by_cases z : x = 0 ∧ y = 0
      · rw [if_pos z]
        have := L1.1 (by omega)
        constructor <;> intro _ <;> omega
      · rw [if_neg z, c2, L1]
        constructor <;> intro _ <;> omega
    · have y0 := hy rfl
      rw [if_neg (fun h => y0 h.2), if_neg (c := false = true ∧ x ≠ 0) (by simp), if_pos ⟨rfl, y0⟩, if_pos rfl]
      constructor
      · intro h; omega
      · intro h
        exfalso
        have m0 : m = 0 := by omega
        have x0 := hx.2 m0
        have : ¬ y ≤ x := by omega
        exact this (L2.2 (by omega))
theorem hi_sign {x y m : Nat} {M t n : Int} {bg : Bool} (L1 : x ≤ y ↔ (m : Int) ≤ M) (L2 : y ≤ x ↔ M + t ≤ (m : Int)) (hx : x = 0 ↔ m = 0) (hy : bg = true → y ≠ 0) (hM : 0 ≤ M) (ht : 0 ≤ t) (hn : n.natAbs = m) :
    cmpS bg y (decide (n < 0)) x ≤ 0 ↔ (if bg = true then -M else M + t) ≤ n := by
  have c1 := cmpI_le y x
  have c2 := cmpI_le x y
  unfold cmpS
  by_cases g : n < 0
  · have x0 : x ≠ 0 := fun h => by have := hx.1 h; omega
    rw [decide_eq_true g, if_neg (fun h => x0 h.2)]
    cases bg
    · rw [if_neg (c := false = true ∧ y ≠ 0) (by simp), if_pos ⟨rfl, x0⟩, if_neg (by simp)]
      constructor <;> intro _ <;> omega
    · rw [if_pos ⟨rfl, hy rfl⟩, if_pos ⟨rfl, x0⟩, if_pos rfl, c2, L1]
      constructor <;> intro _ <;> omega
  · rw [decide_eq_false g]
    cases bg
    · rw [if_neg (c := false = true ∧ y ≠ 0) (by simp), if_neg (c := false = true ∧ x ≠ 0) (by simp), if_neg (c := false = true) (by simp)]
      by_cases z : y = 0 ∧ x = 0
      · rw [if_pos z]
        have := L2.1 (by omega)
        constructor <;> intro _ <;> omega
      · rw [if_neg z, c1, L2]
        constructor <;> intro _ <;> omega
    · have y0 := hy rfl
      rw [if_neg (fun h => y0 h.1), if_pos ⟨rfl, y0⟩, if_neg (c := false = true ∧ x ≠ 0) (by simp), if_pos rfl]
      constructor <;> intro _ <;> omega
theorem sz_zero {U m : Nat} (hU : 0 < U) : sz U m = 0 ↔ m = 0 := by
  unfold sz
  by_cases c : m < U
  · rw [if_pos c]
  · rw [if_neg c]; constructor <;> intro _ <;> omega
theorem e2_23 : (2 : Nat) ^ 23 = 8388608 := by decide
theorem zero_w32 (B : Nat) (lB : (natL B).length ≤ 256) : pbW 0 B 24 (-149) ≤ 104 := by
  have z := (pb_zero (B := B) (room := 24) (least := -149)).2.1
  rw [z]
  unfold pbP
  have := bl_zero
  have := (bl_bd lB).1
  omega
theorem near32 {A B : Nat} (lA : (natL A).length ≤ 256) (lB : (natL B).length ≤ 256) (hB : B ≠ 0) (m : Nat) (hm : m < 2139095040) :
    (B * vA (sz 8388608 m) (pw 8388608 (-149) m) ≤ vB (pw 8388608 (-149) m) * A ↔ (m : Int) ≤ blO32 A B) ∧ (vB (pw 8388608 (-149) m) * A ≤ B * vA (sz 8388608 m) (pw 8388608 (-149) m) ↔ blO32 A B + (if blX32 A B = true then 0 else 1) ≤ (m : Int)) := by
  rw [v_uN, v_uD]
  have hp : pw 8388608 (-149) m ≤ 104 := (pw_bd32 hm).2
  have eF : mkF32 (pbW A B 24 (-149)) = decide (pbW A B 24 (-149) ≤ 104) := by unfold mkF32; exact decide_eq_decide.2 (by omega)
  have hM : blO32 A B = if pbW A B (23 + 1) (-149) ≤ 104 then (if pbS A B (23 + 1) (-149) = 0 then 0 else (pbW A B (23 + 1) (-149) - (-149)) * ((2 ^ 23 : Nat) : Int) + pbS A B (23 + 1) (-149)) else 2139095040 - 1 := by
    rw [e2_23]
    unfold blO32 mkO32
    rw [eF]
    by_cases c : pbW A B 24 (-149) ≤ 104
    · rw [decide_eq_true c, if_pos rfl, if_pos rfl]
      exact (if_pos c).symm
    · rw [decide_eq_false c, if_neg (by decide)]
      exact (if_neg c).symm
  have hX : blX32 A B = (pbX A B (23 + 1) (-149) && decide (pbW A B (23 + 1) (-149) ≤ 104)) := by unfold blX32; rw [eF]
  have h := below_iff (r := 23) (L := -149) (top := 2139095040) (Wm := 104) lA lB hB hM _ hX m (by omega) (by rw [e2_23]; exact hp) (fun e => by subst e; exact zero_w32 B lB)
  rw [e2_23] at h
  exact h
theorem loOk32 {A B : Nat} {bg : Bool} (lA : (natL A).length ≤ 256) (lB : (natL B).length ≤ 256) (hB : B ≠ 0) (ha : bg = true → A ≠ 0) (n : Int) (h1 : -2139095040 < n) (h2 : n < 2139095040) :
    cmpS (decide (n < 0)) (B * vA (sz 8388608 n.natAbs) (pw 8388608 (-149) n.natAbs)) bg (vB (pw 8388608 (-149) n.natAbs) * A) ≤ 0 ↔ n ≤ arL32 bg A B := by
  have h := near32 lA lB hB n.natAbs (by omega)
  have bd := blO_bd32 lA lB hB
  have q := lo_sign (n := n) (bg := bg) h.1 h.2 (by rw [v_uD, Nat.mul_eq_zero, sz_zero (by decide)]; have := uD_pos hB (pw 8388608 (-149) n.natAbs); omega) (fun e => Nat.mul_ne_zero (vB_ne _) (ha e)) bd.1 (by split <;> omega) rfl
  rw [q]
  unfold arL32
  cases bg
  · rw [if_neg (by simp), if_neg (by simp)]
  · rw [if_pos rfl, if_pos rfl]
    by_cases c : blX32 A B = true
    · rw [if_pos c, if_pos c, Int.add_zero]
    · rw [if_neg c, if_neg c]
theorem hiOk32 {A B : Nat} {bg : Bool} (lA : (natL A).length ≤ 256) (lB : (natL B).length ≤ 256) (hB : B ≠ 0) (ha : bg = true → A ≠ 0) (n : Int) (h1 : -2139095040 < n) (h2 : n < 2139095040) :
    cmpS bg (vB (pw 8388608 (-149) n.natAbs) * A) (decide (n < 0)) (B * vA (sz 8388608 n.natAbs) (pw 8388608 (-149) n.natAbs)) ≤ 0 ↔ arH32 bg A B ≤ n := by
  have h := near32 lA lB hB n.natAbs (by omega)
  have bd := blO_bd32 lA lB hB
  have q := hi_sign (n := n) (bg := bg) h.1 h.2 (by rw [v_uD, Nat.mul_eq_zero, sz_zero (by decide)]; have := uD_pos hB (pw 8388608 (-149) n.natAbs); omega) (fun e => Nat.mul_ne_zero (vB_ne _) (ha e)) bd.1 (by split <;> omega) rfl
  rw [q]
  unfold arH32
  cases bg <;> by_cases c : blX32 A B = true <;> simp [c]
theorem e2_52 : (2 : Nat) ^ 52 = 4503599627370496 := by decide
theorem zero_w64 (B : Nat) (lB : (natL B).length ≤ 256) : pbW 0 B 53 (-1074) ≤ 971 := by
  have z := (pb_zero (B := B) (room := 53) (least := -1074)).2.1
  rw [z]
  unfold pbP
  have := bl_zero
  have := (bl_bd lB).1
  omega
theorem near64 {A B : Nat} (lA : (natL A).length ≤ 256) (lB : (natL B).length ≤ 256) (hB : B ≠ 0) (m : Nat) (hm : m < 9218868437227405312) :
    (B * vA (sz 4503599627370496 m) (pw 4503599627370496 (-1074) m) ≤ vB (pw 4503599627370496 (-1074) m) * A ↔ (m : Int) ≤ blO64 A B) ∧ (vB (pw 4503599627370496 (-1074) m) * A ≤ B * vA (sz 4503599627370496 m) (pw 4503599627370496 (-1074) m) ↔ blO64 A B + (if blX64 A B = true then 0 else 1) ≤ (m : Int)) := by
  rw [v_uN, v_uD]
  have hp : pw 4503599627370496 (-1074) m ≤ 971 := (pw_bd hm).2
  have eF : mkF64 (pbW A B 53 (-1074)) = decide (pbW A B 53 (-1074) ≤ 971) := by unfold mkF64; exact decide_eq_decide.2 (by omega)
  have hM : blO64 A B = if pbW A B (52 + 1) (-1074) ≤ 971 then (if pbS A B (52 + 1) (-1074) = 0 then 0 else (pbW A B (52 + 1) (-1074) - (-1074)) * ((2 ^ 52 : Nat) : Int) + pbS A B (52 + 1) (-1074)) else 9218868437227405312 - 1 := by
    rw [e2_52]
    unfold blO64 mkO64
    rw [eF]
    by_cases c : pbW A B 53 (-1074) ≤ 971
    · rw [decide_eq_true c, if_pos rfl, if_pos rfl]
      exact (if_pos c).symm
    · rw [decide_eq_false c, if_neg (by decide)]
      exact (if_neg c).symm
  have hX : blX64 A B = (pbX A B (52 + 1) (-1074) && decide (pbW A B (52 + 1) (-1074) ≤ 971)) := by unfold blX64; rw [eF]
  have h := below_iff (r := 52) (L := -1074) (top := 9218868437227405312) (Wm := 971) lA lB hB hM _ hX m (by omega) (by rw [e2_52]; exact hp) (fun e => by subst e; exact zero_w64 B lB)
  rw [e2_52] at h
  exact h
theorem loOk64 {A B : Nat} {bg : Bool} (lA : (natL A).length ≤ 256) (lB : (natL B).length ≤ 256) (hB : B ≠ 0) (ha : bg = true → A ≠ 0) (n : Int) (h1 : -9218868437227405312 < n) (h2 : n < 9218868437227405312) :
    cmpS (decide (n < 0)) (B * vA (sz 4503599627370496 n.natAbs) (pw 4503599627370496 (-1074) n.natAbs)) bg (vB (pw 4503599627370496 (-1074) n.natAbs) * A) ≤ 0 ↔ n ≤ arL64 bg A B := by
  have h := near64 lA lB hB n.natAbs (by omega)
  have bd := blO_bd64 lA lB hB
  have q := lo_sign (n := n) (bg := bg) h.1 h.2 (by rw [v_uD, Nat.mul_eq_zero, sz_zero (by decide)]; have := uD_pos hB (pw 4503599627370496 (-1074) n.natAbs); omega) (fun e => Nat.mul_ne_zero (vB_ne _) (ha e)) bd.1 (by split <;> omega) rfl
  rw [q]
  unfold arL64
  cases bg
  · rw [if_neg (by simp), if_neg (by simp)]
  · rw [if_pos rfl, if_pos rfl]
    by_cases c : blX64 A B = true
    · rw [if_pos c, if_pos c, Int.add_zero]
    · rw [if_neg c, if_neg c]
theorem hiOk64 {A B : Nat} {bg : Bool} (lA : (natL A).length ≤ 256) (lB : (natL B).length ≤ 256) (hB : B ≠ 0) (ha : bg = true → A ≠ 0) (n : Int) (h1 : -9218868437227405312 < n) (h2 : n < 9218868437227405312) :
    cmpS bg (vB (pw 4503599627370496 (-1074) n.natAbs) * A) (decide (n < 0)) (B * vA (sz 4503599627370496 n.natAbs) (pw 4503599627370496 (-1074) n.natAbs)) ≤ 0 ↔ arH64 bg A B ≤ n := by
  have h := near64 lA lB hB n.natAbs (by omega)
  have bd := blO_bd64 lA lB hB
  have q := hi_sign (n := n) (bg := bg) h.1 h.2 (by rw [v_uD, Nat.mul_eq_zero, sz_zero (by decide)]; have := uD_pos hB (pw 4503599627370496 (-1074) n.natAbs); omega) (fun e => Nat.mul_ne_zero (vB_ne _) (ha e)) bd.1 (by split <;> omega) rfl
  rw [q]
  unfold arH64
  cases bg <;> by_cases c : blX64 A B = true <;> simp [c]
end Go.Proofs.YtlggbihdmabifaaGreatDoor

/- PairHas of the specification: the walk, what its cases share. Conditions: contracts of what it calls. Nothing that was there is written. -/
namespace Go.Proofs.YtlggbihdmabifaaGreatDoor
open Go.RowKit
set_option linter.unusedVariables false
set_option maxRecDepth 100000

theorem five_oldH {w' w'' : World} {b b' : Nat} {v0 v1 v2 v3 v4 : Value} (h : w'.cell? ⟨b, 0, none⟩ = some v0 ∧ w'.cell? ⟨b, 1, none⟩ = some v1 ∧ w'.cell? ⟨b', 0, none⟩ = some v2 ∧ w'.cell? ⟨b', 1, none⟩ = some v3 ∧ w'.cell? ⟨b', 2, none⟩ = some v4) (k : Below w'.heap.size w' w'') :
    w''.cell? ⟨b, 0, none⟩ = some v0 ∧ w''.cell? ⟨b, 1, none⟩ = some v1 ∧ w''.cell? ⟨b', 0, none⟩ = some v2 ∧ w''.cell? ⟨b', 1, none⟩ = some v3 ∧ w''.cell? ⟨b', 2, none⟩ = some v4 := by
  obtain ⟨a1, a2, a3, a4, a5⟩ := h
  exact ⟨(k.cell (World.block_lt_of_cell? _ _ a1)).trans a1, (k.cell (World.block_lt_of_cell? _ _ a2)).trans a2, (k.cell (World.block_lt_of_cell? _ _ a3)).trans a3, (k.cell (World.block_lt_of_cell? _ _ a4)).trans a4, (k.cell (World.block_lt_of_cell? _ _ a5)).trans a5⟩
/-- what is called, and what it answers -/
structure PHc (wd T lo hi : Int) (bg : Bool) (a b : Option Addr) (ca cb nA nB : Nat) (l1 l2 l3 l4 : List Int) (c1 c2 : Int) (sl sh : Bool) (w : World) : Prop where
  po : ∀ w', Calls Tryz.prog 25 #[.int .i64 wd, .agg #[.int .i64 lo, .int .i64 hi]] w' fun e w'' => e = .returned (.bool true) ∧ Below w'.heap.size w' w''
  fo : ∀ w', Below w.heap.size w w' → Calls Tryz.prog 26 #[.agg #[.bool bg, .slice a nA ca, .slice b nB cb]] w' fun e w'' => e = .returned (.bool true) ∧ Below w'.heap.size w' w''
  tp : ∀ w', Calls Tryz.prog 27 #[.int .i64 wd] w' fun e w'' => e = .returned (.int .i64 T) ∧ w'' = w'
  fr : ∀ w', Calls Tryz.prog 30 #[.agg #[.bool bg, .slice a nA ca, .slice b nB cb]] w' fun e w'' => e = .returned (.agg #[.bool bg, .slice a nA ca, .slice b nB cb]) ∧ Below w'.heap.size w' w''
  ol : lo ≠ -T → ∀ w', Calls Tryz.prog 29 #[.int .i64 wd, .int .i64 lo] w' fun e w'' => (∃ av cv bv dv, e = .returned (.agg #[.bool sl, .slice av l1.length cv, .slice bv l2.length dv]) ∧ InI w'' av l1.length cv l1 ∧ InI w'' bv l2.length dv l2) ∧ Below w'.heap.size w' w''
  oh : hi ≠ T → ∀ w', Calls Tryz.prog 29 #[.int .i64 wd, .int .i64 hi] w' fun e w'' => (∃ av cv bv dv, e = .returned (.agg #[.bool sh, .slice av l3.length cv, .slice bv l4.length dv]) ∧ InI w'' av l3.length cv l3 ∧ InI w'' bv l4.length dv l4) ∧ Below w'.heap.size w' w''
  cl : lo ≠ -T → ∀ av cv bv dv w', InI w' av l1.length cv l1 → InI w' bv l2.length dv l2 → Below w.heap.size w w' → Calls Tryz.prog 28 #[.agg #[.bool sl, .slice av l1.length cv, .slice bv l2.length dv], .agg #[.bool bg, .slice a nA ca, .slice b nB cb]] w' fun e w'' => e = .returned (.int .i64 c1) ∧ Below w'.heap.size w' w''
  ch : hi ≠ T → ∀ av cv bv dv w', InI w' av l3.length cv l3 → InI w' bv l4.length dv l4 → Below w.heap.size w w' → Calls Tryz.prog 28 #[.agg #[.bool bg, .slice a nA ca, .slice b nB cb], .agg #[.bool sh, .slice av l3.length cv, .slice bv l4.length dv]] w' fun e w'' => e = .returned (.int .i64 c2) ∧ Below w'.heap.size w' w''
end Go.Proofs.YtlggbihdmabifaaGreatDoor

/- PairHas of the specification: the walk, case 1. Conditions: contracts of what it calls. Nothing that was there is written. -/
namespace Go.Proofs.YtlggbihdmabifaaGreatDoor
open Go.RowKit
set_option linter.unusedVariables false
set_option maxRecDepth 100000

set_option maxRecDepth 100000 in
set_option maxHeartbeats 16000000 in
theorem PHk0 {wd T lo hi : Int} {bg : Bool} {a b : Option Addr} {ca cb nA nB : Nat} {l1 l2 l3 l4 : List Int} {c1 c2 : Int} {sl sh : Bool} {w : World} (H : PHc wd T lo hi bg a b ca cb nA nB l1 l2 l3 l4 c1 c2 sl sh w) (hT : 0 ≤ T ∧ T ≤ 9218868437227405312) (el : lo = -T) (eh : hi = T) :
    Calls Tryz.prog 15 #[.int .i64 wd, .agg #[.int .i64 lo, .int .i64 hi], .agg #[.bool bg, .slice a nA ca, .slice b nB cb]] w fun e w' => e = .returned (.bool true) ∧ Below w.heap.size w w' := by
  obtain ⟨T0, T1⟩ := hT
  have hw : IntKind.i64.wrap (-T) = -T := by rw [IntKind.wrap_i64]; omega
  have PO := hd H.po
  have FO := hd H.fo
  have TP := hd H.tp
  have FR := hd (fun w' (hS : w'.cell? ⟨w.heap.size, 0, none⟩ = some (.int .i64 lo) ∧ w'.cell? ⟨w.heap.size, 1, none⟩ = some (.int .i64 hi) ∧ w'.cell? ⟨w.heap.size + 1, 0, none⟩ = some (.bool bg) ∧ w'.cell? ⟨w.heap.size + 1, 1, none⟩ = some (.slice a nA ca) ∧ w'.cell? ⟨w.heap.size + 1, 2, none⟩ = some (.slice b nB cb)) => (H.fr w').mono (fun e w'' (k : _ ∧ _) => (⟨k, five_oldH hS k.2⟩ : (_ ∧ _) ∧ (w''.cell? ⟨w.heap.size, 0, none⟩ = some (.int .i64 lo) ∧ w''.cell? ⟨w.heap.size, 1, none⟩ = some (.int .i64 hi) ∧ w''.cell? ⟨w.heap.size + 1, 0, none⟩ = some (.bool bg) ∧ w''.cell? ⟨w.heap.size + 1, 1, none⟩ = some (.slice a nA ca) ∧ w''.cell? ⟨w.heap.size + 1, 2, none⟩ = some (.slice b nB cb)))))
  have gl : (lo == -T) = true := by rw [el]; exact beq_self_eq_true _
  have gh : (hi == T) = true := by rw [eh]; exact beq_self_eq_true _
  clear H el eh
  generalize l1.length = n1 at *
  generalize l2.length = n2 at *
  generalize l3.length = n3 at *
  generalize l4.length = n4 at *
  have e0 : Below w.heap.size w ((w.alloc (.cells #[.int .i64 lo, .int .i64 hi] 46)).alloc (.cells #[.bool bg, .slice a nA ca, .slice b nB cb] 47)) := old_alloc (old_alloc (Below.refl _ _) _) _
  have k0 : ((w.alloc (.cells #[.int .i64 lo, .int .i64 hi] 46)).alloc (.cells #[.bool bg, .slice a nA ca, .slice b nB cb] 47)).cell? ⟨w.heap.size, 0, none⟩ = some (.int .i64 lo) ∧ ((w.alloc (.cells #[.int .i64 lo, .int .i64 hi] 46)).alloc (.cells #[.bool bg, .slice a nA ca, .slice b nB cb] 47)).cell? ⟨w.heap.size, 1, none⟩ = some (.int .i64 hi) ∧ ((w.alloc (.cells #[.int .i64 lo, .int .i64 hi] 46)).alloc (.cells #[.bool bg, .slice a nA ca, .slice b nB cb] 47)).cell? ⟨w.heap.size + 1, 0, none⟩ = some (.bool bg) ∧ ((w.alloc (.cells #[.int .i64 lo, .int .i64 hi] 46)).alloc (.cells #[.bool bg, .slice a nA ca, .slice b nB cb] 47)).cell? ⟨w.heap.size + 1, 1, none⟩ = some (.slice a nA ca) ∧ ((w.alloc (.cells #[.int .i64 lo, .int .i64 hi] 46)).alloc (.cells #[.bool bg, .slice a nA ca, .slice b nB cb] 47)).cell? ⟨w.heap.size + 1, 2, none⟩ = some (.slice b nB cb) := by simp
  go_enter Tryz.func15, Tryz.ntmps15
  obtain ⟨m0, m1, m2, m3, m4⟩ := id k0
  go_wp2_with fail
  refine (PO.out _).mono ?_
  rintro e w1 ⟨rfl, hb1⟩
  have k1 := five_oldH k0 hb1
  have B1 := old_trans e0 hb1
  clear m0 m1 m2 m3 m4 k0 PO
  obtain ⟨m0, m1, m2, m3, m4⟩ := id k1
  go_wp2_with fail
  refine (FO.out _ B1).mono ?_
  rintro e w2 ⟨rfl, hb2⟩
  have k2 := five_oldH k1 hb2
  have hB3 := old_trans B1 hb2
  clear m0 m1 m2 m3 m4 k1 FO e0 B1 hb1 hb2
  obtain ⟨m0, m1, m2, m3, m4⟩ := id k2
  have hk := k2
  go_wp2_with fail
  refine (TP.out _).mono ?_
  rintro e W3 ⟨rfl, rfl⟩
  go_wp2_with fail
  clear TP m0 m1 m2 m3 m4 k2
  have hB3d := hB3.drew
  refine wp_region_held_drew (S := fun w' => w'.cell? ⟨w.heap.size, 0, none⟩ = some (.int .i64 lo) ∧ w'.cell? ⟨w.heap.size, 1, none⟩ = some (.int .i64 hi) ∧ w'.cell? ⟨w.heap.size + 1, 0, none⟩ = some (.bool bg) ∧ w'.cell? ⟨w.heap.size + 1, 1, none⟩ = some (.slice a nA ca) ∧ w'.cell? ⟨w.heap.size + 1, 2, none⟩ = some (.slice b nB cb)) rfl hk ?_
  intro hS
  refine wpAnyH_take (i := 0) (v := ?_) rfl (by kernel_rfl) (by kernel_rfl) (by kernel_rfl) (fun _ _ _ h => h) (Or.inl ⟨by kernel_rfl, ?_⟩) hS ?_
  rotate_left
  · intro w' hS'; obtain ⟨s0, s1, s2, s3, s4⟩ := hS'; go_simp <;> with_reducible rfl
  refine wpAnyH_take (i := 1) (v := ?_) rfl (by kernel_rfl) (by kernel_rfl) (by kernel_rfl) (fun _ _ _ h => h) (Or.inl ⟨by kernel_rfl, ?_⟩) hS ?_
  rotate_left
  · intro w' hS'; obtain ⟨s0, s1, s2, s3, s4⟩ := hS'; go_simp <;> with_reducible rfl
  refine wpAnyH_take (i := 2) (v := ?_) rfl (by kernel_rfl) (by kernel_rfl) (by kernel_rfl) (fun _ _ _ h => h) (Or.inl ⟨by kernel_rfl, ?_⟩) hS ?_
  rotate_left
  · intro w' hS'; obtain ⟨s0, s1, s2, s3, s4⟩ := hS'; go_simp <;> with_reducible rfl
  refine wpAnyH_take (i := 3) (v := ?_) rfl (by kernel_rfl) (by kernel_rfl) (by kernel_rfl) (fun _ _ _ h => h) (Or.inl ⟨by kernel_rfl, ?_⟩) hS ?_
  rotate_left
  · intro w' hS'; obtain ⟨s0, s1, s2, s3, s4⟩ := hS'; go_simp <;> with_reducible rfl
  refine wpAnyH_take (i := 4) (v := ?_) rfl (by kernel_rfl) (by kernel_rfl) (by kernel_rfl) (fun _ _ _ h => h) (Or.inl ⟨by kernel_rfl, ?_⟩) hS ?_
  rotate_left
  · intro w' hS'; obtain ⟨s0, s1, s2, s3, s4⟩ := hS'; go_simp <;> with_reducible rfl
  refine wpAnyH_take (i := 5) (v := ?_) rfl (by kernel_rfl) (by kernel_rfl) (by kernel_rfl) (fun _ _ _ h => h) (Or.inl ⟨by kernel_rfl, ?_⟩) hS ?_
  rotate_left
  · intro w' hS'; obtain ⟨s0, s1, s2, s3, s4⟩ := hS'; go_simp <;> with_reducible rfl
  refine wpAnyH_take (i := 6) (v := undef) rfl (by kernel_rfl) (by kernel_rfl) (by kernel_rfl) (fun _ _ _ h => h) (Or.inr ⟨by kernel_rfl, rfl⟩) hS ?_
  refine wpAnyH_take (i := 7) (v := undef) rfl (by kernel_rfl) (by kernel_rfl) (by kernel_rfl) (fun _ _ _ h => h) (Or.inr ⟨by kernel_rfl, rfl⟩) hS ?_
  refine wpAnyH_take (i := 8) (v := undef) rfl (by kernel_rfl) (by kernel_rfl) (by kernel_rfl) (fun _ _ _ h => h) (Or.inr ⟨by kernel_rfl, rfl⟩) hS ?_
  refine wpAnyH_take (i := 9) (v := undef) rfl (by kernel_rfl) (by kernel_rfl) (by kernel_rfl) (fun _ _ _ h => h) (Or.inr ⟨by kernel_rfl, rfl⟩) hS ?_
  refine wpAnyH_take (i := 10) (v := undef) rfl (by kernel_rfl) (by kernel_rfl) (by kernel_rfl) (fun _ _ _ h => h) (Or.inr ⟨by kernel_rfl, rfl⟩) hS ?_
  refine wpAnyH_take (i := 11) (v := undef) rfl (by kernel_rfl) (by kernel_rfl) (by kernel_rfl) (fun _ _ _ h => h) (Or.inr ⟨by kernel_rfl, rfl⟩) hS ?_
  refine wpAnyH_take (i := 12) (v := undef) rfl (by kernel_rfl) (by kernel_rfl) (by kernel_rfl) (fun _ _ _ h => h) (Or.inr ⟨by kernel_rfl, rfl⟩) hS ?_
  refine wpAnyH_take (i := 13) (v := undef) rfl (by kernel_rfl) (by kernel_rfl) (by kernel_rfl) (fun _ _ _ h => h) (Or.inr ⟨by kernel_rfl, rfl⟩) hS ?_
  refine wpAnyH_take (i := 14) (v := ?_) rfl (by kernel_rfl) (by kernel_rfl) (by kernel_rfl) (fun _ _ _ h => h) (Or.inl ⟨by kernel_rfl, ?_⟩) hS ?_
  rotate_left
  · intro w' hS'; obtain ⟨s0, s1, s2, s3, s4⟩ := hS'; go_simp <;> with_reducible rfl
  refine wpAnyH_take (i := 15) (v := ?_) rfl (by kernel_rfl) (by kernel_rfl) (by kernel_rfl) (fun _ _ _ h => h) (Or.inl ⟨by kernel_rfl, ?_⟩) hS ?_
  rotate_left
  · intro w' hS'; obtain ⟨s0, s1, s2, s3, s4⟩ := hS'; go_simp <;> with_reducible rfl
  refine wpAnyH_take (i := 16) (v := ?_) rfl (by kernel_rfl) (by kernel_rfl) (by kernel_rfl) (fun _ _ _ h => h) (Or.inl ⟨by kernel_rfl, ?_⟩) hS ?_
  rotate_left
  · intro w' hS'; obtain ⟨s0, s1, s2, s3, s4⟩ := hS'; go_simp <;> with_reducible rfl
  refine wpAnyH_take (i := 17) (v := ?_) rfl (by kernel_rfl) (by kernel_rfl) (by kernel_rfl) (fun _ _ _ h => h) (Or.inl ⟨by kernel_rfl, ?_⟩) hS ?_
  rotate_left
  · intro w' hS'; obtain ⟨s0, s1, s2, s3, s4⟩ := hS'; go_simp <;> with_reducible rfl
  refine wpAnyH_take (i := 18) (v := ?_) rfl (by kernel_rfl) (by kernel_rfl) (by kernel_rfl) (fun _ _ _ h => h) (Or.inl ⟨by kernel_rfl, ?_⟩) hS ?_
  rotate_left
  · intro w' hS'; obtain ⟨s0, s1, s2, s3, s4⟩ := hS'; go_simp <;> with_reducible rfl
  refine wpAnyH_take (i := 19) (v := ?_) rfl (by kernel_rfl) (by kernel_rfl) (by kernel_rfl) (fun _ _ _ h => h) (Or.inl ⟨by kernel_rfl, ?_⟩) hS ?_
  rotate_left
  · intro w' hS'; obtain ⟨s0, s1, s2, s3, s4⟩ := hS'; go_simp <;> with_reducible rfl
  refine wpAnyH_take (i := 20) (v := ?_) rfl (by kernel_rfl) (by kernel_rfl) (by kernel_rfl) (fun _ _ _ h => h) (Or.inl ⟨by kernel_rfl, ?_⟩) hS ?_
  rotate_left
  · intro w' hS'; obtain ⟨s0, s1, s2, s3, s4⟩ := hS'; go_simp <;> with_reducible rfl
  refine wpAnyH_take (i := 21) (v := undef) rfl (by kernel_rfl) (by kernel_rfl) (by kernel_rfl) (fun _ _ _ h => h) (Or.inr ⟨by kernel_rfl, rfl⟩) hS ?_
  refine wpAnyH_take (i := 22) (v := undef) rfl (by kernel_rfl) (by kernel_rfl) (by kernel_rfl) (fun _ _ _ h => h) (Or.inr ⟨by kernel_rfl, rfl⟩) hS ?_
  refine wpAnyH_take (i := 23) (v := undef) rfl (by kernel_rfl) (by kernel_rfl) (by kernel_rfl) (fun _ _ _ h => h) (Or.inr ⟨by kernel_rfl, rfl⟩) hS ?_
  refine wpAnyH_take (i := 24) (v := undef) rfl (by kernel_rfl) (by kernel_rfl) (by kernel_rfl) (fun _ _ _ h => h) (Or.inr ⟨by kernel_rfl, rfl⟩) hS ?_
  refine wpAnyH_take (i := 25) (v := undef) rfl (by kernel_rfl) (by kernel_rfl) (by kernel_rfl) (fun _ _ _ h => h) (Or.inr ⟨by kernel_rfl, rfl⟩) hS ?_
  refine wpAnyH_take (i := 26) (v := undef) rfl (by kernel_rfl) (by kernel_rfl) (by kernel_rfl) (fun _ _ _ h => h) (Or.inr ⟨by kernel_rfl, rfl⟩) hS ?_
  refine wpAnyH_take (i := 27) (v := undef) rfl (by kernel_rfl) (by kernel_rfl) (by kernel_rfl) (fun _ _ _ h => h) (Or.inr ⟨by kernel_rfl, rfl⟩) hS ?_
  refine wpAnyH_take (i := 28) (v := undef) rfl (by kernel_rfl) (by kernel_rfl) (by kernel_rfl) (fun _ _ _ h => h) (Or.inr ⟨by kernel_rfl, rfl⟩) hS ?_
  refine wpAnyH_take (i := 29) (v := ?_) rfl (by kernel_rfl) (by kernel_rfl) (by kernel_rfl) (fun _ _ _ h => h) (Or.inl ⟨by kernel_rfl, ?_⟩) hS ?_
  rotate_left
  · intro w' hS'; obtain ⟨s0, s1, s2, s3, s4⟩ := hS'; go_simp <;> with_reducible rfl
  refine wpAnyH_take (i := 30) (v := ?_) rfl (by kernel_rfl) (by kernel_rfl) (by kernel_rfl) (fun _ _ _ h => h) (Or.inl ⟨by kernel_rfl, ?_⟩) hS ?_
  rotate_left
  · intro w' hS'; obtain ⟨s0, s1, s2, s3, s4⟩ := hS'; go_simp <;> with_reducible rfl
  refine wpAnyH_take (i := 31) (v := ?_) rfl (by kernel_rfl) (by kernel_rfl) (by kernel_rfl) (fun _ _ _ h => h) (Or.inl ⟨by kernel_rfl, ?_⟩) hS ?_
  rotate_left
  · intro w' hS'; obtain ⟨s0, s1, s2, s3, s4⟩ := hS'; go_simp <;> with_reducible rfl
  refine wpAnyH_done (by kernel_rfl) ?_ _
  go_wp2
  go_ret
  exact ⟨by kernel_rfl, hB3d⟩
end Go.Proofs.YtlggbihdmabifaaGreatDoor

/- PairHas of the specification: the walk, case 2. Conditions: contracts of what it calls. Nothing that was there is written. -/
namespace Go.Proofs.YtlggbihdmabifaaGreatDoor
open Go.RowKit
set_option linter.unusedVariables false
set_option maxRecDepth 100000

set_option maxRecDepth 100000 in
set_option maxHeartbeats 16000000 in
theorem PHk1 {wd T lo hi : Int} {bg : Bool} {a b : Option Addr} {ca cb nA nB : Nat} {l1 l2 l3 l4 : List Int} {c1 c2 : Int} {sl sh : Bool} {w : World} (H : PHc wd T lo hi bg a b ca cb nA nB l1 l2 l3 l4 c1 c2 sl sh w) (hT : 0 ≤ T ∧ T ≤ 9218868437227405312) (el : lo = -T) (eh : hi ≠ T) (d2 : decide (c2 ≤ 0) = true) :
    Calls Tryz.prog 15 #[.int .i64 wd, .agg #[.int .i64 lo, .int .i64 hi], .agg #[.bool bg, .slice a nA ca, .slice b nB cb]] w fun e w' => e = .returned (.bool true) ∧ Below w.heap.size w w' := by
  obtain ⟨T0, T1⟩ := hT
  have hw : IntKind.i64.wrap (-T) = -T := by rw [IntKind.wrap_i64]; omega
  have PO := hd H.po
  have FO := hd H.fo
  have TP := hd H.tp
  have FR := hd (fun w' (hS : w'.cell? ⟨w.heap.size, 0, none⟩ = some (.int .i64 lo) ∧ w'.cell? ⟨w.heap.size, 1, none⟩ = some (.int .i64 hi) ∧ w'.cell? ⟨w.heap.size + 1, 0, none⟩ = some (.bool bg) ∧ w'.cell? ⟨w.heap.size + 1, 1, none⟩ = some (.slice a nA ca) ∧ w'.cell? ⟨w.heap.size + 1, 2, none⟩ = some (.slice b nB cb)) => (H.fr w').mono (fun e w'' (k : _ ∧ _) => (⟨k, five_oldH hS k.2⟩ : (_ ∧ _) ∧ (w''.cell? ⟨w.heap.size, 0, none⟩ = some (.int .i64 lo) ∧ w''.cell? ⟨w.heap.size, 1, none⟩ = some (.int .i64 hi) ∧ w''.cell? ⟨w.heap.size + 1, 0, none⟩ = some (.bool bg) ∧ w''.cell? ⟨w.heap.size + 1, 1, none⟩ = some (.slice a nA ca) ∧ w''.cell? ⟨w.heap.size + 1, 2, none⟩ = some (.slice b nB cb)))))
  have gl : (lo == -T) = true := by rw [el]; exact beq_self_eq_true _
  have OH := hd (fun w' (hS : w'.cell? ⟨w.heap.size, 0, none⟩ = some (.int .i64 lo) ∧ w'.cell? ⟨w.heap.size, 1, none⟩ = some (.int .i64 hi) ∧ w'.cell? ⟨w.heap.size + 1, 0, none⟩ = some (.bool bg) ∧ w'.cell? ⟨w.heap.size + 1, 1, none⟩ = some (.slice a nA ca) ∧ w'.cell? ⟨w.heap.size + 1, 2, none⟩ = some (.slice b nB cb)) => (H.oh eh w').mono (fun e w'' (k : _ ∧ _) => (⟨k, five_oldH hS k.2⟩ : (_ ∧ _) ∧ (w''.cell? ⟨w.heap.size, 0, none⟩ = some (.int .i64 lo) ∧ w''.cell? ⟨w.heap.size, 1, none⟩ = some (.int .i64 hi) ∧ w''.cell? ⟨w.heap.size + 1, 0, none⟩ = some (.bool bg) ∧ w''.cell? ⟨w.heap.size + 1, 1, none⟩ = some (.slice a nA ca) ∧ w''.cell? ⟨w.heap.size + 1, 2, none⟩ = some (.slice b nB cb)))))
  have CH := hd (fun av cv bv dv w' (hS : w'.cell? ⟨w.heap.size, 0, none⟩ = some (.int .i64 lo) ∧ w'.cell? ⟨w.heap.size, 1, none⟩ = some (.int .i64 hi) ∧ w'.cell? ⟨w.heap.size + 1, 0, none⟩ = some (.bool bg) ∧ w'.cell? ⟨w.heap.size + 1, 1, none⟩ = some (.slice a nA ca) ∧ w'.cell? ⟨w.heap.size + 1, 2, none⟩ = some (.slice b nB cb)) i1 i2 (h : Below w.heap.size w w') => (H.ch eh av cv bv dv w' i1 i2 h).mono (fun e w'' (k : _ ∧ _) => (⟨k, five_oldH hS k.2⟩ : (_ ∧ _) ∧ (w''.cell? ⟨w.heap.size, 0, none⟩ = some (.int .i64 lo) ∧ w''.cell? ⟨w.heap.size, 1, none⟩ = some (.int .i64 hi) ∧ w''.cell? ⟨w.heap.size + 1, 0, none⟩ = some (.bool bg) ∧ w''.cell? ⟨w.heap.size + 1, 1, none⟩ = some (.slice a nA ca) ∧ w''.cell? ⟨w.heap.size + 1, 2, none⟩ = some (.slice b nB cb)))))
  have gh : (hi == T) = false := beq_eq_false_iff_ne.2 eh
  clear H el eh
  generalize l1.length = n1 at *
  generalize l2.length = n2 at *
  generalize l3.length = n3 at *
  generalize l4.length = n4 at *
  have e0 : Below w.heap.size w ((w.alloc (.cells #[.int .i64 lo, .int .i64 hi] 46)).alloc (.cells #[.bool bg, .slice a nA ca, .slice b nB cb] 47)) := old_alloc (old_alloc (Below.refl _ _) _) _
  have k0 : ((w.alloc (.cells #[.int .i64 lo, .int .i64 hi] 46)).alloc (.cells #[.bool bg, .slice a nA ca, .slice b nB cb] 47)).cell? ⟨w.heap.size, 0, none⟩ = some (.int .i64 lo) ∧ ((w.alloc (.cells #[.int .i64 lo, .int .i64 hi] 46)).alloc (.cells #[.bool bg, .slice a nA ca, .slice b nB cb] 47)).cell? ⟨w.heap.size, 1, none⟩ = some (.int .i64 hi) ∧ ((w.alloc (.cells #[.int .i64 lo, .int .i64 hi] 46)).alloc (.cells #[.bool bg, .slice a nA ca, .slice b nB cb] 47)).cell? ⟨w.heap.size + 1, 0, none⟩ = some (.bool bg) ∧ ((w.alloc (.cells #[.int .i64 lo, .int .i64 hi] 46)).alloc (.cells #[.bool bg, .slice a nA ca, .slice b nB cb] 47)).cell? ⟨w.heap.size + 1, 1, none⟩ = some (.slice a nA ca) ∧ ((w.alloc (.cells #[.int .i64 lo, .int .i64 hi] 46)).alloc (.cells #[.bool bg, .slice a nA ca, .slice b nB cb] 47)).cell? ⟨w.heap.size + 1, 2, none⟩ = some (.slice b nB cb) := by simp
  go_enter Tryz.func15, Tryz.ntmps15
  obtain ⟨m0, m1, m2, m3, m4⟩ := id k0
  go_wp2_with fail
  refine (PO.out _).mono ?_
  rintro e w1 ⟨rfl, hb1⟩
  have k1 := five_oldH k0 hb1
  have B1 := old_trans e0 hb1
  clear m0 m1 m2 m3 m4 k0 PO
  obtain ⟨m0, m1, m2, m3, m4⟩ := id k1
  go_wp2_with fail
  refine (FO.out _ B1).mono ?_
  rintro e w2 ⟨rfl, hb2⟩
  have k2 := five_oldH k1 hb2
  have hB3 := old_trans B1 hb2
  clear m0 m1 m2 m3 m4 k1 FO e0 B1 hb1 hb2
  obtain ⟨m0, m1, m2, m3, m4⟩ := id k2
  have hk := k2
  go_wp2_with fail
  refine (TP.out _).mono ?_
  rintro e W3 ⟨rfl, rfl⟩
  go_wp2_with fail
  clear TP m0 m1 m2 m3 m4 k2
  have hB3d := hB3.drew
  refine wp_region_held_drew (S := fun w' => w'.cell? ⟨w.heap.size, 0, none⟩ = some (.int .i64 lo) ∧ w'.cell? ⟨w.heap.size, 1, none⟩ = some (.int .i64 hi) ∧ w'.cell? ⟨w.heap.size + 1, 0, none⟩ = some (.bool bg) ∧ w'.cell? ⟨w.heap.size + 1, 1, none⟩ = some (.slice a nA ca) ∧ w'.cell? ⟨w.heap.size + 1, 2, none⟩ = some (.slice b nB cb)) rfl hk ?_
  intro hS
  refine wpAnyH_take (i := 0) (v := ?_) rfl (by kernel_rfl) (by kernel_rfl) (by kernel_rfl) (fun _ _ _ h => h) (Or.inl ⟨by kernel_rfl, ?_⟩) hS ?_
  rotate_left
  · intro w' hS'; obtain ⟨s0, s1, s2, s3, s4⟩ := hS'; go_simp <;> with_reducible rfl
  refine wpAnyH_take (i := 1) (v := ?_) rfl (by kernel_rfl) (by kernel_rfl) (by kernel_rfl) (fun _ _ _ h => h) (Or.inl ⟨by kernel_rfl, ?_⟩) hS ?_
  rotate_left
  · intro w' hS'; obtain ⟨s0, s1, s2, s3, s4⟩ := hS'; go_simp <;> with_reducible rfl
  refine wpAnyH_take (i := 2) (v := ?_) rfl (by kernel_rfl) (by kernel_rfl) (by kernel_rfl) (fun _ _ _ h => h) (Or.inl ⟨by kernel_rfl, ?_⟩) hS ?_
  rotate_left
  · intro w' hS'; obtain ⟨s0, s1, s2, s3, s4⟩ := hS'; go_simp <;> with_reducible rfl
  refine wpAnyH_take (i := 3) (v := ?_) rfl (by kernel_rfl) (by kernel_rfl) (by kernel_rfl) (fun _ _ _ h => h) (Or.inl ⟨by kernel_rfl, ?_⟩) hS ?_
  rotate_left
  · intro w' hS'; obtain ⟨s0, s1, s2, s3, s4⟩ := hS'; go_simp <;> with_reducible rfl
  refine wpAnyH_take (i := 4) (v := ?_) rfl (by kernel_rfl) (by kernel_rfl) (by kernel_rfl) (fun _ _ _ h => h) (Or.inl ⟨by kernel_rfl, ?_⟩) hS ?_
  rotate_left
  · intro w' hS'; obtain ⟨s0, s1, s2, s3, s4⟩ := hS'; go_simp <;> with_reducible rfl
  refine wpAnyH_take (i := 5) (v := ?_) rfl (by kernel_rfl) (by kernel_rfl) (by kernel_rfl) (fun _ _ _ h => h) (Or.inl ⟨by kernel_rfl, ?_⟩) hS ?_
  rotate_left
  · intro w' hS'; obtain ⟨s0, s1, s2, s3, s4⟩ := hS'; go_simp <;> with_reducible rfl
  refine wpAnyH_take (i := 6) (v := undef) rfl (by kernel_rfl) (by kernel_rfl) (by kernel_rfl) (fun _ _ _ h => h) (Or.inr ⟨by kernel_rfl, rfl⟩) hS ?_
  refine wpAnyH_take (i := 7) (v := undef) rfl (by kernel_rfl) (by kernel_rfl) (by kernel_rfl) (fun _ _ _ h => h) (Or.inr ⟨by kernel_rfl, rfl⟩) hS ?_
  refine wpAnyH_take (i := 8) (v := undef) rfl (by kernel_rfl) (by kernel_rfl) (by kernel_rfl) (fun _ _ _ h => h) (Or.inr ⟨by kernel_rfl, rfl⟩) hS ?_
  refine wpAnyH_take (i := 9) (v := undef) rfl (by kernel_rfl) (by kernel_rfl) (by kernel_rfl) (fun _ _ _ h => h) (Or.inr ⟨by kernel_rfl, rfl⟩) hS ?_
  refine wpAnyH_take (i := 10) (v := undef) rfl (by kernel_rfl) (by kernel_rfl) (by kernel_rfl) (fun _ _ _ h => h) (Or.inr ⟨by kernel_rfl, rfl⟩) hS ?_
  refine wpAnyH_take (i := 11) (v := undef) rfl (by kernel_rfl) (by kernel_rfl) (by kernel_rfl) (fun _ _ _ h => h) (Or.inr ⟨by kernel_rfl, rfl⟩) hS ?_
  refine wpAnyH_take (i := 12) (v := undef) rfl (by kernel_rfl) (by kernel_rfl) (by kernel_rfl) (fun _ _ _ h => h) (Or.inr ⟨by kernel_rfl, rfl⟩) hS ?_
  refine wpAnyH_take (i := 13) (v := undef) rfl (by kernel_rfl) (by kernel_rfl) (by kernel_rfl) (fun _ _ _ h => h) (Or.inr ⟨by kernel_rfl, rfl⟩) hS ?_
  refine wpAnyH_take (i := 14) (v := ?_) rfl (by kernel_rfl) (by kernel_rfl) (by kernel_rfl) (fun _ _ _ h => h) (Or.inl ⟨by kernel_rfl, ?_⟩) hS ?_
  rotate_left
  · intro w' hS'; obtain ⟨s0, s1, s2, s3, s4⟩ := hS'; go_simp <;> with_reducible rfl
  refine wpAnyH_take (i := 15) (v := ?_) rfl (by kernel_rfl) (by kernel_rfl) (by kernel_rfl) (fun _ _ _ h => h) (Or.inl ⟨by kernel_rfl, ?_⟩) hS ?_
  rotate_left
  · intro w' hS'; obtain ⟨s0, s1, s2, s3, s4⟩ := hS'; go_simp <;> with_reducible rfl
  refine wpAnyH_take (i := 16) (v := ?_) rfl (by kernel_rfl) (by kernel_rfl) (by kernel_rfl) (fun _ _ _ h => h) (Or.inl ⟨by kernel_rfl, ?_⟩) hS ?_
  rotate_left
  · intro w' hS'; obtain ⟨s0, s1, s2, s3, s4⟩ := hS'; go_simp <;> with_reducible rfl
  refine wpAnyH_take (i := 17) (v := ?_) rfl (by kernel_rfl) (by kernel_rfl) (by kernel_rfl) (fun _ _ _ h => h) (Or.inl ⟨by kernel_rfl, ?_⟩) hS ?_
  rotate_left
  · intro w' hS'; obtain ⟨s0, s1, s2, s3, s4⟩ := hS'; go_simp <;> with_reducible rfl
  refine wpAnyH_take (i := 18) (v := ?_) rfl (by kernel_rfl) (by kernel_rfl) (by kernel_rfl) (fun _ _ _ h => h) (Or.inl ⟨by kernel_rfl, ?_⟩) hS ?_
  rotate_left
  · intro w' hS'; obtain ⟨s0, s1, s2, s3, s4⟩ := hS'; go_simp <;> with_reducible rfl
  refine wpAnyH_take (i := 19) (v := ?_) rfl (by kernel_rfl) (by kernel_rfl) (by kernel_rfl) (fun _ _ _ h => h) (Or.inl ⟨by kernel_rfl, ?_⟩) hS ?_
  rotate_left
  · intro w' hS'; obtain ⟨s0, s1, s2, s3, s4⟩ := hS'; go_simp <;> with_reducible rfl
  refine wpAnyH_take (i := 20) (v := ?_) rfl (by kernel_rfl) (by kernel_rfl) (by kernel_rfl) (fun _ _ _ h => h) (Or.inl ⟨by kernel_rfl, ?_⟩) hS ?_
  rotate_left
  · intro w' hS'; obtain ⟨s0, s1, s2, s3, s4⟩ := hS'; go_simp <;> with_reducible rfl
  refine wpAnyH_take (i := 21) (v := ?_) rfl (by kernel_rfl) (by kernel_rfl) (by kernel_rfl) (fun _ _ _ h => h) (Or.inl ⟨by kernel_rfl, ?_⟩) hS ?_
  rotate_left
  · intro w' hS'; obtain ⟨s0, s1, s2, s3, s4⟩ := hS'; go_simp <;> with_reducible rfl
  refine wpAnyH_take (i := 23) (v := ?_) rfl (by kernel_rfl) (by kernel_rfl) (by kernel_rfl) (fun _ _ _ h => h) (Or.inl ⟨by kernel_rfl, ?_⟩) hS ?_
  rotate_left
  · intro w' hS'; obtain ⟨s0, s1, s2, s3, s4⟩ := hS'; go_simp <;> with_reducible rfl
  refine wpAnyH_take (i := 24) (v := ?_) rfl (by kernel_rfl) (by kernel_rfl) (by kernel_rfl) (fun _ _ _ h => h) (Or.inl ⟨by kernel_rfl, ?_⟩) hS ?_
  rotate_left
  · intro w' hS'; obtain ⟨s0, s1, s2, s3, s4⟩ := hS'; go_simp <;> with_reducible rfl
  refine wpAnyH_take (i := 25) (v := ?_) rfl (by kernel_rfl) (by kernel_rfl) (by kernel_rfl) (fun _ _ _ h => h) (Or.inl ⟨by kernel_rfl, ?_⟩) hS ?_
  rotate_left
  · intro w' hS'; obtain ⟨s0, s1, s2, s3, s4⟩ := hS'; go_simp <;> with_reducible rfl
  refine wpAnyH_ready (rs := [22]) (by kernel_rfl) (by simp) ?_
  refine AllReadyH.cons rfl (fun K hK => ?_) AllReadyH.nil
  go_simp
  refine (FR.out _ hS).mono ?_
  rintro e w7 ⟨⟨rfl, hb7⟩, hc7⟩
  refine hK.out _ _ hc7 ?_
  intro hS7
  clear hK K
  have B7 := old_trans hB3d hb7
  refine wpAnyH_ready (rs := [26]) (by kernel_rfl) (by simp) ?_
  refine AllReadyH.cons rfl (fun K hK => ?_) AllReadyH.nil
  go_simp
  refine (OH.out _ hS7).mono ?_
  rintro e w8 ⟨⟨⟨av2, cv2, bv2, dv2, rfl, iw1, iw2⟩, hb8⟩, hc8⟩
  refine hK.out _ _ hc8 ?_
  intro hS8
  clear hK K
  have B8 := old_trans B7 hb8
  refine wpAnyH_ready (rs := [27]) (by kernel_rfl) (by simp) ?_
  refine AllReadyH.cons rfl (fun K hK => ?_) AllReadyH.nil
  go_simp
  refine (CH.out _ _ _ _ _ hS8 iw1 iw2 B8).mono ?_
  rintro e w9 ⟨⟨rfl, hb9⟩, hc9⟩
  refine hK.out _ _ hc9 ?_
  intro hS9
  clear hK K
  have B9 := old_trans B8 hb9
  refine wpAnyH_take (i := 28) (v := ?_) rfl (by kernel_rfl) (by kernel_rfl) (by kernel_rfl) (fun _ _ _ h => h) (Or.inl ⟨by kernel_rfl, ?_⟩) hS9 ?_
  rotate_left
  · intro w' hS'; obtain ⟨s0, s1, s2, s3, s4⟩ := hS'; go_simp <;> with_reducible rfl
  refine wpAnyH_take (i := 29) (v := ?_) rfl (by kernel_rfl) (by kernel_rfl) (by kernel_rfl) (fun _ _ _ h => h) (Or.inl ⟨by kernel_rfl, ?_⟩) hS9 ?_
  rotate_left
  · intro w' hS'; obtain ⟨s0, s1, s2, s3, s4⟩ := hS'; go_simp <;> with_reducible rfl
  refine wpAnyH_take (i := 30) (v := ?_) rfl (by kernel_rfl) (by kernel_rfl) (by kernel_rfl) (fun _ _ _ h => h) (Or.inl ⟨by kernel_rfl, ?_⟩) hS9 ?_
  rotate_left
  · intro w' hS'; obtain ⟨s0, s1, s2, s3, s4⟩ := hS'; go_simp <;> with_reducible rfl
  refine wpAnyH_take (i := 31) (v := ?_) rfl (by kernel_rfl) (by kernel_rfl) (by kernel_rfl) (fun _ _ _ h => h) (Or.inl ⟨by kernel_rfl, ?_⟩) hS9 ?_
  rotate_left
  · intro w' hS'; obtain ⟨s0, s1, s2, s3, s4⟩ := hS'; go_simp <;> with_reducible rfl
  refine wpAnyH_done (by kernel_rfl) ?_ _
  go_wp2
  go_ret
  exact ⟨by kernel_rfl, B9⟩
end Go.Proofs.YtlggbihdmabifaaGreatDoor
