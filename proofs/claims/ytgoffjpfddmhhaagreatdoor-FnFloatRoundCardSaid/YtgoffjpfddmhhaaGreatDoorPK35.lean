/- Two numbers with a sign, compared by the specification; the parts of a float. Conditions: numbers of 100,000 digits at most. Nothing that was there is written. -/
import Derived.Test.YtgoffjpfddmhhaaGreatDoorPK33
import Derived.Test.YtgoffjpfddmhhaaGreatDoorPK34
import Derived.Test.YtgoffjpfddmhhaaGreatDoorPK19
import Derived.Test.YtgoffjpfddmhhaaGreatDoorPK26
import Derived.Test.YtgoffjpfddmhhaaGreatDoorPK32
import Derived.Deep.RegionHeld3
namespace Go.Proofs.YtgoffjpfddmhhaaGreatDoor
open Go.RowKit
set_option linter.unusedVariables false
set_option maxRecDepth 100000

def cmpS (g1 : Bool) (x : Nat) (g2 : Bool) (y : Nat) : Int :=
  if x = 0 ∧ y = 0 then 0 else if g1 = true ∧ x ≠ 0 then (if g2 = true ∧ y ≠ 0 then cmpI y x else -1) else if g2 = true ∧ y ≠ 0 then 1 else cmpI x y
theorem lenH (X : Nat) : ((natL X).length : Int) = 0 ↔ X = 0 := by
  constructor
  · intro h
    rcases Nat.eq_zero_or_pos X with h' | h'
    · exact h'
    · have := natL_length_pos h'; omega
  · intro h; subst h; rw [natL_zero]; rfl
end Go.Proofs.YtgoffjpfddmhhaaGreatDoor

/- The nearest float: mathematics. -/
namespace Go.Proofs.YtgoffjpfddmhhaaGreatDoor
open Go.RowKit
set_option linter.unusedVariables false
set_option maxRecDepth 100000

def sg (b : Bool) (n : Nat) : Int := if b = true then -(n : Int) else n
theorem sg_sum (b c : Bool) (x y : Nat) : sg (sumS b c x y) (sumN b c x y) = sg b x + sg c y := by
  unfold sg sumS sumN
  cases b <;> cases c <;> by_cases h : x < y <;> simp [h] <;> omega
theorem sg_mul (b : Bool) (x y : Nat) : sg b (x * y) = sg b x * (y : Int) := by
  unfold sg
  cases b <;> simp [Int.natCast_mul, Int.neg_mul]
theorem sg_su2 (b c : Bool) (A B A' B' : Nat) : sg (su2S b c A B A' B') (su2N b c A B A' B') = sg b A * (B' : Int) + sg c A' * (B : Int) := by
  unfold su2S su2N
  rw [sg_sum, sg_mul, sg_mul]
theorem sg_su4 (b1 b2 b3 b4 : Bool) (A1 B1 A2 B2 A3 B3 A4 B4 : Nat) : sg (su4S b1 b2 b3 b4 A1 B1 A2 B2 A3 B3 A4 B4) (su4N b1 b2 b3 b4 A1 B1 A2 B2 A3 B3 A4 B4) = ((sg b1 A1 * (B2 : Int) + sg b2 A2 * (B1 : Int)) * (B3 : Int) + sg b3 A3 * ((B1 : Int) * (B2 : Int))) * (B4 : Int) + sg b4 A4 * ((B1 : Int) * (B2 : Int) * (B3 : Int)) := by
  unfold su4S su4N
  rw [sg_su2, sg_su2, sg_su2]
  simp only [Int.natCast_mul]
theorem sg_not (b : Bool) (n : Nat) : sg (!b) n = - sg b n := by
  unfold sg; cases b <;> simp
theorem signI_sg (s : Bool) (N : Nat) : (signI true s (natL N).length < 0 ↔ sg s N < 0) ∧ (signI true s (natL N).length = 0 ↔ sg s N = 0) := by
  have h := lenH N
  unfold signI sg
  by_cases e : N = 0
  · subst e
    have : (natL 0).length = 0 := by rw [natL_zero]; rfl
    simp [this]
  · have e' : (natL N).length ≠ 0 := fun k => e (h.1 (by omega))
    cases s
    · simp [e', e] <;> omega
    · simp [e', e] <;> omega
theorem cmpS_sg (g1 g2 : Bool) (x y : Nat) : (cmpS g1 x g2 y < 0 ↔ sg g1 x < sg g2 y) ∧ (cmpS g1 x g2 y = 0 ↔ sg g1 x = sg g2 y) := by
  unfold cmpS sg cmpI
  cases g1 <;> cases g2 <;> by_cases h1 : x = 0 <;> by_cases h2 : y = 0 <;> simp [h1, h2] <;> (repeat' split) <;> omega
theorem same_cross {A B A' B' : Nat} (h : SameF A B A' B') : A * B' = A' * B := by
  obtain ⟨h1, h2, -, -⟩ := h
  unfold lowT at h1
  unfold lowU at h2
  have e1 := congrArg val h1
  have e2 := congrArg val h2
  simp only [val_natL] at e1 e2
  have d1 := Nat.div_mul_cancel (Nat.gcd_dvd_left A B)
  have d2 := Nat.div_mul_cancel (Nat.gcd_dvd_right A B)
  have d3 := Nat.div_mul_cancel (Nat.gcd_dvd_left A' B')
  have d4 := Nat.div_mul_cancel (Nat.gcd_dvd_right A' B')
  generalize Nat.gcd A B = g at *
  generalize Nat.gcd A' B' = g' at *
  generalize A / g = p at *
  generalize B / g = q at *
  generalize A' / g' = p' at *
  generalize B' / g' = q' at *
  subst e1 e2
  rw [← d1, ← d2, ← d3, ← d4]
  simp only [Nat.mul_comm, Nat.mul_left_comm]
/-- how twice a fraction lies to the sum of two values -/
def dE (bg : Bool) (A B : Nat) (s1 : Bool) (U1 Z1 : Nat) (s2 : Bool) (U2 Z2 : Nat) : Int := 2 * sg bg A * ((Z1 : Int) * (Z2 : Int)) - (B : Int) * (sg s1 U1 * (Z2 : Int) + sg s2 U2 * (Z1 : Int))
theorem sg_cross (s : Bool) {v Y U Z : Nat} (h : v * Z = U * Y) : sg s v * (Z : Int) = sg s U * (Y : Int) := by
  rw [← sg_mul, ← sg_mul, h]
theorem pos_iff {x y k : Int} (hk : 0 < k) (h : x = k * y) : (x < 0 ↔ y < 0) ∧ (x = 0 ↔ y = 0) := by
  subst h
  constructor
  · constructor
    · intro h
      rcases Int.lt_or_le y 0 with g | g
      · exact g
      · have := Int.mul_nonneg (Int.le_of_lt hk) g; omega
    · intro h; exact Int.mul_neg_of_pos_of_neg hk h
  · constructor
    · intro h
      rcases Int.mul_eq_zero.1 h with g | g
      · omega
      · exact g
    · rintro rfl; simp
theorem side_iff (bg : Bool) (A B : Nat) (s1 s2 : Bool) (v1 Y1 U1 Z1 v2 Y2 U2 Z2 : Nat) (hB : B ≠ 0) (y1 : Y1 ≠ 0) (z1 : Z1 ≠ 0) (y2 : Y2 ≠ 0) (z2 : Z2 ≠ 0) (h1 : SameF v1 Y1 U1 Z1) (h2 : SameF v2 Y2 U2 Z2) (S : Bool) (N : Nat) (hS : S = su4S bg bg (!s1) (!s2) A B A B v1 Y1 v2 Y2) (hN : N = su4N bg bg (!s1) (!s2) A B A B v1 Y1 v2 Y2) :
    (signI true S (natL N).length < 0 ↔ dE bg A B s1 U1 Z1 s2 U2 Z2 < 0) ∧ (signI true S (natL N).length = 0 ↔ dE bg A B s1 U1 Z1 s2 U2 Z2 = 0) := by
  have q1 := sg_cross s1 (same_cross h1)
  have q2 := sg_cross s2 (same_cross h2)
  have e := sg_su4 bg bg (!s1) (!s2) A B A B v1 Y1 v2 Y2
  rw [← hS, ← hN, sg_not, sg_not] at e
  have p1 := signI_sg S N
  have f1 : sg S N = (B : Int) * dE bg A B s1 v1 Y1 s2 v2 Y2 := by
    rw [e]; unfold dE; grind
  have f2 : dE bg A B s1 v1 Y1 s2 v2 Y2 * ((Z1 : Int) * (Z2 : Int)) = ((Y1 : Int) * (Y2 : Int)) * dE bg A B s1 U1 Z1 s2 U2 Z2 := by
    unfold dE; grind
  have b1 : (0 : Int) < B := by omega
  have c1 : (0 : Int) < (Z1 : Int) * (Z2 : Int) := Int.mul_pos (by omega) (by omega)
  have c2 : (0 : Int) < (Y1 : Int) * (Y2 : Int) := Int.mul_pos (by omega) (by omega)
  have g1 := pos_iff b1 f1
  have g2 := pos_iff c1 (x := ((Y1 : Int) * (Y2 : Int)) * dE bg A B s1 U1 Z1 s2 U2 Z2) (y := dE bg A B s1 v1 Y1 s2 v2 Y2) (by rw [← f2, Int.mul_comm])
  have g3 := pos_iff c2 (x := ((Y1 : Int) * (Y2 : Int)) * dE bg A B s1 U1 Z1 s2 U2 Z2) (y := dE bg A B s1 U1 Z1 s2 U2 Z2) rfl
  exact ⟨p1.1.trans (g1.1.trans (g2.1.symm.trans g3.1)), p1.2.trans (g1.2.trans (g2.2.symm.trans g3.2))⟩
/-- the nearest of two floats -/
def nrV (lo hi E : Int) : Int := if E < 0 ∨ E = 0 ∧ Int.tmod lo 2 = 0 then lo else hi
end Go.Proofs.YtgoffjpfddmhhaaGreatDoor

/- The nearest float to a ratio, by the program. Conditions: the library's table lies as its text lays it; 256 digits at most; a ratio that is below 0 is not 0. Of what was there only the count is written. -/
namespace Go.Proofs.YtgoffjpfddmhhaaGreatDoor
open Go.RowKit
set_option linter.unusedVariables false
set_option maxRecDepth 100000

theorem five_oldN {w' w'' : World} {b b' : Nat} {v0 v1 v2 v3 v4 : Value} (h : w'.cell? ⟨b, 0, none⟩ = some v0 ∧ w'.cell? ⟨b, 1, none⟩ = some v1 ∧ w'.cell? ⟨b', 0, none⟩ = some v2 ∧ w'.cell? ⟨b', 1, none⟩ = some v3 ∧ w'.cell? ⟨b', 2, none⟩ = some v4) (k : Below w'.heap.size w' w'') :
    w''.cell? ⟨b, 0, none⟩ = some v0 ∧ w''.cell? ⟨b, 1, none⟩ = some v1 ∧ w''.cell? ⟨b', 0, none⟩ = some v2 ∧ w''.cell? ⟨b', 1, none⟩ = some v3 ∧ w''.cell? ⟨b', 2, none⟩ = some v4 := by
  obtain ⟨a1, a2, a3, a4, a5⟩ := h
  exact ⟨(k.cell (World.block_lt_of_cell? _ _ a1)).trans a1, (k.cell (World.block_lt_of_cell? _ _ a2)).trans a2, (k.cell (World.block_lt_of_cell? _ _ a3)).trans a3, (k.cell (World.block_lt_of_cell? _ _ a4)).trans a4, (k.cell (World.block_lt_of_cell? _ _ a5)).trans a5⟩
theorem Cel12.new (w : World) (v0 v1 v2 v3 v4 v5 v6 v7 v8 v9 v10 v11 : Value) (ty : TypeId) : Cel12 (w.alloc (.cells #[v0, v1, v2, v3, v4, v5, v6, v7, v8, v9, v10, v11] ty)) w.heap.size v0 v1 v2 v3 v4 v5 v6 v7 v8 v9 v10 v11 := by
  refine ⟨by simp, by simp, by simp, by simp, by simp, by simp, by simp, by simp, by simp, by simp, by simp, by simp, by simp⟩
theorem vA_256 {o : Nat} {p : Int} (ho : o < 9007199254740992) (hp : p ≤ 2000) : (natL (vA o p)).length ≤ 256 := vA_lenk ho (by omega)
theorem vB_256 {p : Int} (hp : -2000 ≤ p) : (natL (vB p)).length ≤ 256 := vB_lenk (by omega)
def loN32 (bl : Bool) (A B : Nat) : Int := max (arL32 bl A B) (-2139095039)
def hiN32 (bl : Bool) (A B : Nat) : Int := min (arH32 bl A B) 2139095039
def nE32 (bl : Bool) (A B : Nat) (lo hi : Int) : Int := dE bl A B (decide (lo < 0)) (vA (sz 8388608 lo.natAbs) (pw 8388608 (-149) lo.natAbs)) (vB (pw 8388608 (-149) lo.natAbs)) (decide (hi < 0)) (vA (sz 8388608 hi.natAbs) (pw 8388608 (-149) hi.natAbs)) (vB (pw 8388608 (-149) hi.natAbs))
def nr32 (bl : Bool) (A B : Nat) : Int := nrV (loN32 bl A B) (hiN32 bl A B) (nE32 bl A B (loN32 bl A B) (hiN32 bl A B))
theorem lohi32 {bl : Bool} {A B : Nat} (lA : (natL A).length ≤ 256) (lB : (natL B).length ≤ 256) (hB0 : B ≠ 0) : (-2139095040 < loN32 bl A B ∧ loN32 bl A B < 2139095040) ∧ (-2139095040 < hiN32 bl A B ∧ hiN32 bl A B < 2139095040) := by
  have h := blO_bd32 lA lB hB0
  unfold loN32 hiN32 arL32 arH32
  (repeat' split) <;> omega
set_option maxHeartbeats 16000000 in
theorem iNearest32 (vb : Nat) (c : Int) (bl : Bool) (a b : Option Addr) (ca cb A B : Nat) (w0 w : World) (h0 : Below w0.heap.size w0 w) (hvb : w0.heap.size ≤ vb) (hV : S1c w vb (.int .i64 c)) (c0 : 0 ≤ c) (c1 : c ≤ 1000) (hA : InI w0 a (natL A).length ca (natL A)) (hB : InI w0 b (natL B).length cb (natL B)) (lA : (natL A).length ≤ 256) (lB : (natL B).length ≤ 256) (hB0 : B ≠ 0) (hbl : bl = true → A ≠ 0) (hT : Tab w0) :
    Calls Tryz.prog 151 #[.pointer (some ⟨vb, 0, none⟩), .agg #[.bool bl, .slice a (natL A).length ca, .slice b (natL B).length cb]] w fun e w' => e = .returned (.int .i64 (nr32 bl A B)) ∧ ButV vb w w' := by
  have bd := lohi32 (bl := bl) lA lB hB0
  have e0 : Below w.heap.size w (w.alloc (.cells #[.bool bl, .slice a (natL A).length ca, .slice b (natL B).length cb] 84)) := (by repeat (first | exact Below.refl _ _ | refine Below.drew ?_ | refine old_alloc ?_ _ | refine old_trans ?_ (by assumption)))
  have K := Cel3.new w (.bool bl) (.slice a (natL A).length ca) (.slice b (natL B).length cb) 84
  have V := hV.later e0
  have hvl := hV.lt
  have WI := hd (iWidth32 (.pointer (some ⟨vb, 0, none⟩)))
  have TO := hd iBitTop_32
  have AR := hd (fun w' (h : Below w0.heap.size w0 w') (v : S1c w' vb (.int .i64 c)) => iAround32 vb c bl a b ca cb A B w' v c0 c1 (hA.old h) (hB.old h) lA lB hB0 (hT.old h))
  have IN := hd (fun w' => iInner (arL32 bl A B) (arH32 bl A B) (-2139095039) 2139095039 w')
  have VL := hd (fun w' (h : Below w0.heap.size w0 w') => iValue32 (.pointer (some ⟨vb, 0, none⟩)) (loN32 bl A B) bd.1.1 bd.1.2 w' (hT.old h))
  have VH := hd (fun w' (h : Below w0.heap.size w0 w') => iValue32 (.pointer (some ⟨vb, 0, none⟩)) (hiN32 bl A B) bd.2.1 bd.2.2 w' (hT.old h))
  change Hid (∀ w', Calls _ _ _ w' fun e w'' => e = .returned (.agg #[.int .i64 (loN32 bl A B), .int .i64 (hiN32 bl A B)]) ∧ _) at IN
  unfold nr32
  obtain ⟨E, hE⟩ : ∃ E, E = nE32 bl A B (loN32 bl A B) (hiN32 bl A B) := ⟨_, rfl⟩
  rw [← hE]
  unfold nE32 at hE
  generalize loN32 bl A B = lo at *
  generalize hiN32 bl A B = hi at *
  obtain ⟨U1, hU1⟩ : ∃ U1, U1 = vA (sz 8388608 lo.natAbs) (pw 8388608 (-149) lo.natAbs) := ⟨_, rfl⟩
  obtain ⟨Z1, hZ1⟩ : ∃ Z1, Z1 = vB (pw 8388608 (-149) lo.natAbs) := ⟨_, rfl⟩
  obtain ⟨U2, hU2⟩ : ∃ U2, U2 = vA (sz 8388608 hi.natAbs) (pw 8388608 (-149) hi.natAbs) := ⟨_, rfl⟩
  obtain ⟨Z2, hZ2⟩ : ∃ Z2, Z2 = vB (pw 8388608 (-149) hi.natAbs) := ⟨_, rfl⟩
  have z1 : Z1 ≠ 0 := by rw [hZ1]; exact vB_ne _
  have z2 : Z2 ≠ 0 := by rw [hZ2]; exact vB_ne _
  simp only [← hU1, ← hZ1] at VL hE
  simp only [← hU2, ← hZ2] at VH hE
  clear hU1 hZ1 hU2 hZ2
  generalize hs1 : decide (lo < 0) = s1 at *
  generalize hs2 : decide (hi < 0) = s2 at *
  have SD : Hid (∀ o1 p1 o2 p2, SameF (vA o1 p1) (vB p1) U1 Z1 → SameF (vA o2 p2) (vB p2) U2 Z2 → (signI true (su4S bl bl (!s1) (!s2) A B A B (vA o1 p1) (vB p1) (vA o2 p2) (vB p2)) (natL (su4N bl bl (!s1) (!s2) A B A B (vA o1 p1) (vB p1) (vA o2 p2) (vB p2))).length < 0 ↔ E < 0) ∧ (signI true (su4S bl bl (!s1) (!s2) A B A B (vA o1 p1) (vB p1) (vA o2 p2) (vB p2)) (natL (su4N bl bl (!s1) (!s2) A B A B (vA o1 p1) (vB p1) (vA o2 p2) (vB p2))).length = 0 ↔ E = 0)) := by
    intro o1 p1 o2 p2 g1 g2
    rw [hE]
    exact side_iff bl A B s1 s2 _ _ _ _ _ _ _ _ hB0 (vB_ne _) z1 (vB_ne _) z2 g1 g2 _ _ rfl rfl
  have SU := hd (fun o1 p1 o2 p2 ax kx bx dx ay ky by' dy (ho1 : o1 < 9007199254740992) (hp1 : -2000 ≤ p1 ∧ p1 ≤ 2000) (ho2 : o2 < 9007199254740992) (hp2 : -2000 ≤ p2 ∧ p2 ≤ 2000) w1 w2 w' p (h1 : InI w1 ax (natL (vA o1 p1)).length kx (natL (vA o1 p1))) (h2 : InI w1 bx (natL (vB p1)).length dx (natL (vB p1))) (h3 : InI w2 ay (natL (vA o2 p2)).length ky (natL (vA o2 p2))) (h4 : InI w2 by' (natL (vB p2)).length dy (natL (vB p2))) (hp : Cel12 w' p (.bool bl) (.slice a (natL A).length ca) (.slice b (natL B).length cb) (.bool bl) (.slice a (natL A).length ca) (.slice b (natL B).length cb) (.bool (!s1)) (.slice ax (natL (vA o1 p1)).length kx) (.slice bx (natL (vB p1)).length dx) (.bool (!s2)) (.slice ay (natL (vA o2 p2)).length ky) (.slice by' (natL (vB p2)).length dy)) (k0 : Below w0.heap.size w0 w') (k1 : Below w1.heap.size w1 w') (k2 : Below w2.heap.size w2 w') => iSummed4 bl a b ca cb A B bl a b ca cb A B (!s1) ax bx kx dx (vA o1 p1) (vB p1) (!s2) ay by' ky dy (vA o2 p2) (vB p2) w' p hp (hA.old k0) (hB.old k0) lA lB (hA.old k0) (hB.old k0) lA lB (h1.old k1) (h2.old k1) (vA_256 ho1 hp1.2) (vB_256 hp1.1) (h3.old k2) (h4.old k2) (vA_256 ho2 hp2.2) (vB_256 hp2.1) hbl)
  have rlo : Hid (E < 0 ∨ E = 0 ∧ Int.tmod lo 2 = 0 → nrV lo hi E = lo) := fun h => by unfold nrV; rw [if_pos h]
  have rhi : Hid (¬ (E < 0 ∨ E = 0 ∧ Int.tmod lo 2 = 0) → nrV lo hi E = hi) := fun h => by unfold nrV; rw [if_neg h]
  generalize nrV lo hi E = r at *
  clear hA hB lA lB hB0 hbl hT hE bd hV z1 z2
  go_enter Tryz.func151, Tryz.ntmps151
  go_wp2_with fail
  refine (WI.out _).mono ?_
  rintro e w1 ⟨rfl, rfl⟩
  go_wp2_with fail
  refine (TO.out _).mono ?_
  rintro e w1 ⟨rfl, hb1⟩
  replace K := K.old hb1
  replace V := V.later hb1
  replace e0 := old_trans e0 hb1
  clear hb1 WI TO
  obtain ⟨k1, ⟨k2, k3, k4⟩, -⟩ := id K
  go_wp2_with fail
  refine (AR.out _ (old_trans h0 e0) V).mono ?_
  rintro e w2 ⟨rfl, hbv⟩
  replace k2 := (hbv.cell (b := w.heap.size) (i := 0) k1 (by omega)).trans k2
  replace k3 := (hbv.cell (b := w.heap.size) (i := 1) k1 (by omega)).trans k3
  replace k4 := (hbv.cell (b := w.heap.size) (i := 2) k1 (by omega)).trans k4
  have h2 : Below w0.heap.size w0 w2 := (old_trans h0 e0).trans (hbv.below hvb V.lt)
  have BV : ButV vb w w2 := ButV.from e0 hbv
  clear K V AR hbv h0 e0 k1
  go_wp2_with fail
  refine (IN.out _).mono ?_
  rintro e w3 ⟨rfl, hb3⟩
  replace k2 := cell_later hb3 k2
  replace k3 := cell_later hb3 k3
  replace k4 := cell_later hb3 k4
  have hal : Below w3.heap.size w3 (w3.alloc (.cells #[.int .i64 lo, .int .i64 hi] 52)) := old_alloc (Below.refl _ _) _
  have q1 : (w3.alloc (.cells #[.int .i64 lo, .int .i64 hi] 52)).cell? ⟨w3.heap.size, 0, none⟩ = some (.int .i64 lo) := by simp
  have q2 : (w3.alloc (.cells #[.int .i64 lo, .int .i64 hi] 52)).cell? ⟨w3.heap.size, 1, none⟩ = some (.int .i64 hi) := by simp
  replace k2 := cell_later hal k2
  replace k3 := cell_later hal k3
  replace k4 := cell_later hal k4
  have h4 : Below w0.heap.size w0 (w3.alloc (.cells #[.int .i64 lo, .int .i64 hi] 52)) := old_trans (old_trans h2 hb3) hal
  have BV4 := (BV.next hb3).next hal
  clear hb3 hal h2 BV IN
  go_upto_region 3 with fail
  generalize w.heap.size = q at *
  generalize w3.heap.size = pr at *
  generalize w3.alloc (.cells #[.int .i64 lo, .int .i64 hi] 52) = W at *
  have hc0 : W.cell? ⟨pr, 0, none⟩ = some (.int .i64 lo) ∧ W.cell? ⟨pr, 1, none⟩ = some (.int .i64 hi) ∧ W.cell? ⟨q, 0, none⟩ = some (.bool bl) ∧ W.cell? ⟨q, 1, none⟩ = some (.slice a (natL A).length ca) ∧ W.cell? ⟨q, 2, none⟩ = some (.slice b (natL B).length cb) := ⟨q1, q2, k2, k3, k4⟩
  replace VL := hd (fun w' (hS : w'.cell? ⟨pr, 0, none⟩ = some (.int .i64 lo) ∧ w'.cell? ⟨pr, 1, none⟩ = some (.int .i64 hi) ∧ w'.cell? ⟨q, 0, none⟩ = some (.bool bl) ∧ w'.cell? ⟨q, 1, none⟩ = some (.slice a (natL A).length ca) ∧ w'.cell? ⟨q, 2, none⟩ = some (.slice b (natL B).length cb)) (h : Below w0.heap.size w0 w') => (VL.out w' h).mono (fun e w'' (k : _ ∧ _) => (⟨k, five_oldN hS k.2⟩ : (_ ∧ _) ∧ (w''.cell? ⟨pr, 0, none⟩ = some (.int .i64 lo) ∧ w''.cell? ⟨pr, 1, none⟩ = some (.int .i64 hi) ∧ w''.cell? ⟨q, 0, none⟩ = some (.bool bl) ∧ w''.cell? ⟨q, 1, none⟩ = some (.slice a (natL A).length ca) ∧ w''.cell? ⟨q, 2, none⟩ = some (.slice b (natL B).length cb)))))
  replace VH := hd (fun w' (hS : w'.cell? ⟨pr, 0, none⟩ = some (.int .i64 lo) ∧ w'.cell? ⟨pr, 1, none⟩ = some (.int .i64 hi) ∧ w'.cell? ⟨q, 0, none⟩ = some (.bool bl) ∧ w'.cell? ⟨q, 1, none⟩ = some (.slice a (natL A).length ca) ∧ w'.cell? ⟨q, 2, none⟩ = some (.slice b (natL B).length cb)) (h : Below w0.heap.size w0 w') => (VH.out w' h).mono (fun e w'' (k : _ ∧ _) => (⟨k, five_oldN hS k.2⟩ : (_ ∧ _) ∧ (w''.cell? ⟨pr, 0, none⟩ = some (.int .i64 lo) ∧ w''.cell? ⟨pr, 1, none⟩ = some (.int .i64 hi) ∧ w''.cell? ⟨q, 0, none⟩ = some (.bool bl) ∧ w''.cell? ⟨q, 1, none⟩ = some (.slice a (natL A).length ca) ∧ w''.cell? ⟨q, 2, none⟩ = some (.slice b (natL B).length cb)))))
  have US := hd (fun s xa xb ka kb o p w1 w' (I1 : InI w1 xa (natL o).length ka (natL o)) (I2 : InI w1 xb (natL 1).length kb (natL 1)) (ho : o < 9007199254740992) (hp : -2000 ≤ p ∧ p ≤ 2000) (hS : w'.cell? ⟨pr, 0, none⟩ = some (.int .i64 lo) ∧ w'.cell? ⟨pr, 1, none⟩ = some (.int .i64 hi) ∧ w'.cell? ⟨q, 0, none⟩ = some (.bool bl) ∧ w'.cell? ⟨q, 1, none⟩ = some (.slice a (natL A).length ca) ∧ w'.cell? ⟨q, 2, none⟩ = some (.slice b (natL B).length cb)) (h : Below w1.heap.size w1 w') => (iUnscaled s xa xb ka kb o p w' (I1.old h) (I2.old h) ho hp).mono (fun e w'' (k : _ ∧ _) => (⟨k, five_oldN hS k.2⟩ : (_ ∧ _) ∧ (w''.cell? ⟨pr, 0, none⟩ = some (.int .i64 lo) ∧ w''.cell? ⟨pr, 1, none⟩ = some (.int .i64 hi) ∧ w''.cell? ⟨q, 0, none⟩ = some (.bool bl) ∧ w''.cell? ⟨q, 1, none⟩ = some (.slice a (natL A).length ca) ∧ w''.cell? ⟨q, 2, none⟩ = some (.slice b (natL B).length cb)))))
  have NG := hd (fun s xa xb la lb ka kb w' (hS : w'.cell? ⟨pr, 0, none⟩ = some (.int .i64 lo) ∧ w'.cell? ⟨pr, 1, none⟩ = some (.int .i64 hi) ∧ w'.cell? ⟨q, 0, none⟩ = some (.bool bl) ∧ w'.cell? ⟨q, 1, none⟩ = some (.slice a (natL A).length ca) ∧ w'.cell? ⟨q, 2, none⟩ = some (.slice b (natL B).length cb)) => (iNegated s xa xb la lb ka kb w').mono (fun e w'' (k : _ ∧ _) => (⟨k, five_oldN hS k.2⟩ : (_ ∧ _) ∧ (w''.cell? ⟨pr, 0, none⟩ = some (.int .i64 lo) ∧ w''.cell? ⟨pr, 1, none⟩ = some (.int .i64 hi) ∧ w''.cell? ⟨q, 0, none⟩ = some (.bool bl) ∧ w''.cell? ⟨q, 1, none⟩ = some (.slice a (natL A).length ca) ∧ w''.cell? ⟨q, 2, none⟩ = some (.slice b (natL B).length cb)))))
  have SG := hd (fun s xa xb la lb ka kb w' (hS : w'.cell? ⟨pr, 0, none⟩ = some (.int .i64 lo) ∧ w'.cell? ⟨pr, 1, none⟩ = some (.int .i64 hi) ∧ w'.cell? ⟨q, 0, none⟩ = some (.bool bl) ∧ w'.cell? ⟨q, 1, none⟩ = some (.slice a (natL A).length ca) ∧ w'.cell? ⟨q, 2, none⟩ = some (.slice b (natL B).length cb)) (h : la ≤ 9223372036854775807) => (iSign s xa xb la lb ka kb w' h).mono (fun e w'' (k : _ ∧ _) => (⟨k, five_oldN hS k.2⟩ : (_ ∧ _) ∧ (w''.cell? ⟨pr, 0, none⟩ = some (.int .i64 lo) ∧ w''.cell? ⟨pr, 1, none⟩ = some (.int .i64 hi) ∧ w''.cell? ⟨q, 0, none⟩ = some (.bool bl) ∧ w''.cell? ⟨q, 1, none⟩ = some (.slice a (natL A).length ca) ∧ w''.cell? ⟨q, 2, none⟩ = some (.slice b (natL B).length cb)))))
  replace SU := hd (fun o1 p1 o2 p2 ax kx bx dx ay ky by' dy ho1 hp1 ho2 hp2 w1 w2 w' p h1 h2 h3 h4 (hS : w'.cell? ⟨pr, 0, none⟩ = some (.int .i64 lo) ∧ w'.cell? ⟨pr, 1, none⟩ = some (.int .i64 hi) ∧ w'.cell? ⟨q, 0, none⟩ = some (.bool bl) ∧ w'.cell? ⟨q, 1, none⟩ = some (.slice a (natL A).length ca) ∧ w'.cell? ⟨q, 2, none⟩ = some (.slice b (natL B).length cb)) hp k0 k1 k2 => (SU.out o1 p1 o2 p2 ax kx bx dx ay ky by' dy ho1 hp1 ho2 hp2 w1 w2 w' p h1 h2 h3 h4 hp k0 k1 k2).mono (fun e w'' (k : _ ∧ _) => (⟨k, five_oldN hS k.2⟩ : (_ ∧ _) ∧ (w''.cell? ⟨pr, 0, none⟩ = some (.int .i64 lo) ∧ w''.cell? ⟨pr, 1, none⟩ = some (.int .i64 hi) ∧ w''.cell? ⟨q, 0, none⟩ = some (.bool bl) ∧ w''.cell? ⟨q, 1, none⟩ = some (.slice a (natL A).length ca) ∧ w''.cell? ⟨q, 2, none⟩ = some (.slice b (natL B).length cb)))))
  go_region_held3 (fun w' => w'.cell? ⟨pr, 0, none⟩ = some (.int .i64 lo) ∧ w'.cell? ⟨pr, 1, none⟩ = some (.int .i64 hi) ∧ w'.cell? ⟨q, 0, none⟩ = some (.bool bl) ∧ w'.cell? ⟨q, 1, none⟩ = some (.slice a (natL A).length ca) ∧ w'.cell? ⟨q, 2, none⟩ = some (.slice b (natL B).length cb)) (go_keep) (first | (go_at_call 152; first | ((with_reducible refine (VL.out _ ?_ ?_).mono ?_); (focus assumption); (focus repeat (first | with_reducible exact Below.refl _ _ | with_reducible assumption | with_reducible refine Below.drew ?_ | with_reducible refine old_alloc ?_ _ | with_reducible refine old_trans ?_ (by with_reducible assumption))); rintro e wv1 ⟨⟨⟨o1, p1, av1, bv1, cv1, dv1, rfl, OA1, OB1, ho1, hp1, sm1⟩, hbv1⟩, hcv1⟩) | ((with_reducible refine (VH.out _ ?_ ?_).mono ?_); (focus assumption); (focus repeat (first | with_reducible exact Below.refl _ _ | with_reducible assumption | with_reducible refine Below.drew ?_ | with_reducible refine old_alloc ?_ _ | with_reducible refine old_trans ?_ (by with_reducible assumption))); rintro e wv2 ⟨⟨⟨o2, p2, av2, bv2, cv2, dv2, rfl, OA2, OB2, ho2, hp2, sm2⟩, hbv2⟩, hcv2⟩)) | (go_at_call 40; first | ((with_reducible refine (US.out _ _ _ _ _ _ _ _ _ OA1.inI OB1.inI ho1 hp1 ?_ ?_).mono ?_); (focus assumption); (focus repeat (first | with_reducible exact Below.refl _ _ | with_reducible assumption | with_reducible refine Below.drew ?_ | with_reducible refine old_alloc ?_ _ | with_reducible refine old_trans ?_ (by with_reducible assumption))); rintro e wu1 ⟨⟨⟨ax1, kx1, bx1, dx1, rfl, IX1, IY1⟩, hbu1⟩, hcu1⟩) | ((with_reducible refine (US.out _ _ _ _ _ _ _ _ _ OA2.inI OB2.inI ho2 hp2 ?_ ?_).mono ?_); (focus assumption); (focus repeat (first | with_reducible exact Below.refl _ _ | with_reducible assumption | with_reducible refine Below.drew ?_ | with_reducible refine old_alloc ?_ _ | with_reducible refine old_trans ?_ (by with_reducible assumption))); rintro e wu2 ⟨⟨⟨ax2, kx2, bx2, dx2, rfl, IX2, IY2⟩, hbu2⟩, hcu2⟩)) | (go_at_call 157; (with_reducible refine (NG.out _ _ _ _ _ _ _ _ ?_).mono ?_); (focus assumption); rintro e wn ⟨⟨rfl, hbn⟩, hcn⟩) | (go_at_call 156; (with_reducible refine (SU.out _ _ _ _ _ _ _ _ _ _ _ _ ho1 hp1 ho2 hp2 _ _ _ _ IX1 IY1 IX2 IY2 ?_ ?_ ?_ ?_ ?_).mono ?_); (focus assumption); (focus exact Cel12.new _ _ _ _ _ _ _ _ _ _ _ _ _ _); (focus repeat (first | with_reducible exact Below.refl _ _ | with_reducible assumption | with_reducible refine Below.drew ?_ | with_reducible refine old_alloc ?_ _ | with_reducible refine old_trans ?_ (by with_reducible assumption))); (focus repeat (first | with_reducible exact Below.refl _ _ | with_reducible assumption | with_reducible refine Below.drew ?_ | with_reducible refine old_alloc ?_ _ | with_reducible refine old_trans ?_ (by with_reducible assumption))); (focus repeat (first | with_reducible exact Below.refl _ _ | with_reducible assumption | with_reducible refine Below.drew ?_ | with_reducible refine old_alloc ?_ _ | with_reducible refine old_trans ?_ (by with_reducible assumption))); rintro e ws ⟨⟨⟨a1, k1, a2, k2', rfl, hO, hO'⟩, hbs⟩, hcs⟩) | (go_at_call 158; (with_reducible refine (SG.out _ _ _ _ _ _ _ _ ?_ hO.inI.len).mono ?_); (focus assumption); rintro e wz ⟨⟨rfl, hbz⟩, hcz⟩))
  all_goals
    have BZ : ButV vb w wz := BV4.next (by repeat (first | with_reducible exact Below.refl _ _ | with_reducible assumption | with_reducible refine Below.drew ?_ | with_reducible refine old_alloc ?_ _ | with_reducible refine old_trans ?_ (by with_reducible assumption)))
    have sd := hd (SD.out o1 p1 o2 p2 sm1 sm2)
    clear hO hO' US NG SG SU VL VH SD
    generalize signI true (su4S bl bl (!s1) (!s2) A B A B (vA o1 p1) (vB p1) (vA o2 p2) (vB p2)) (natL (su4N bl bl (!s1) (!s2) A B A B (vA o1 p1) (vB p1) (vA o2 p2) (vB p2))).length = sgn at *
    obtain ⟨g1, g2, g3, g4, g5⟩ := id hcz
    by_cases d1 : sgn < 0
    · go_wp2
      go_ret
      exact ⟨retI (rlo.out (Or.inl (sd.out.1.1 d1))), BZ⟩
    by_cases d2 : sgn = 0
    · by_cases d3 : Int.tmod lo 2 = 0
      · go_wp2
        go_ret
        exact ⟨retI (rlo.out (Or.inr ⟨sd.out.2.1 d2, d3⟩)), BZ⟩
      · go_wp2
        go_ret
        exact ⟨retI (rhi.out (fun h => h.elim (fun h => absurd (sd.out.1.2 h) (by omega)) (fun h => absurd h.2 d3))), BZ⟩
    · go_wp2
      go_ret
      exact ⟨retI (rhi.out (fun h => h.elim (fun h => absurd (sd.out.1.2 h) (by omega)) (fun h => absurd (sd.out.2.2 h.1) d2))), BZ⟩
end Go.Proofs.YtgoffjpfddmhhaaGreatDoor

/- The nearest float to a ratio, by the program: the wide ones. Conditions as of the narrow ones. -/
namespace Go.Proofs.YtgoffjpfddmhhaaGreatDoor
open Go.RowKit
set_option linter.unusedVariables false
set_option maxRecDepth 100000

def loN64 (bl : Bool) (A B : Nat) : Int := max (arL64 bl A B) (-9218868437227405311)
def hiN64 (bl : Bool) (A B : Nat) : Int := min (arH64 bl A B) 9218868437227405311
def nE64 (bl : Bool) (A B : Nat) (lo hi : Int) : Int := dE bl A B (decide (lo < 0)) (vA (sz 4503599627370496 lo.natAbs) (pw 4503599627370496 (-1074) lo.natAbs)) (vB (pw 4503599627370496 (-1074) lo.natAbs)) (decide (hi < 0)) (vA (sz 4503599627370496 hi.natAbs) (pw 4503599627370496 (-1074) hi.natAbs)) (vB (pw 4503599627370496 (-1074) hi.natAbs))
def nr64 (bl : Bool) (A B : Nat) : Int := nrV (loN64 bl A B) (hiN64 bl A B) (nE64 bl A B (loN64 bl A B) (hiN64 bl A B))
theorem lohi64 {bl : Bool} {A B : Nat} (lA : (natL A).length ≤ 256) (lB : (natL B).length ≤ 256) (hB0 : B ≠ 0) : (-9218868437227405312 < loN64 bl A B ∧ loN64 bl A B < 9218868437227405312) ∧ (-9218868437227405312 < hiN64 bl A B ∧ hiN64 bl A B < 9218868437227405312) := by
  have h := blO_bd64 lA lB hB0
  unfold loN64 hiN64 arL64 arH64
  (repeat' split) <;> omega
set_option maxHeartbeats 16000000 in
theorem iNearest64 (vb : Nat) (c : Int) (bl : Bool) (a b : Option Addr) (ca cb A B : Nat) (w0 w : World) (h0 : Below w0.heap.size w0 w) (hvb : w0.heap.size ≤ vb) (hV : S1c w vb (.int .i64 c)) (c0 : 0 ≤ c) (c1 : c ≤ 1000) (hA : InI w0 a (natL A).length ca (natL A)) (hB : InI w0 b (natL B).length cb (natL B)) (lA : (natL A).length ≤ 256) (lB : (natL B).length ≤ 256) (hB0 : B ≠ 0) (hbl : bl = true → A ≠ 0) (hT : Tab w0) :
    Calls Tryz.prog 179 #[.pointer (some ⟨vb, 0, none⟩), .agg #[.bool bl, .slice a (natL A).length ca, .slice b (natL B).length cb]] w fun e w' => e = .returned (.int .i64 (nr64 bl A B)) ∧ ButV vb w w' := by
  have bd := lohi64 (bl := bl) lA lB hB0
  have e0 : Below w.heap.size w (w.alloc (.cells #[.bool bl, .slice a (natL A).length ca, .slice b (natL B).length cb] 84)) := (by repeat (first | exact Below.refl _ _ | refine Below.drew ?_ | refine old_alloc ?_ _ | refine old_trans ?_ (by assumption)))
  have K := Cel3.new w (.bool bl) (.slice a (natL A).length ca) (.slice b (natL B).length cb) 84
  have V := hV.later e0
  have hvl := hV.lt
  have WI := hd (iWidth64 (.pointer (some ⟨vb, 0, none⟩)))
  have TO := hd iBitTop_64
  have AR := hd (fun w' (h : Below w0.heap.size w0 w') (v : S1c w' vb (.int .i64 c)) => iAround64 vb c bl a b ca cb A B w' v c0 c1 (hA.old h) (hB.old h) lA lB hB0 (hT.old h))
  have IN := hd (fun w' => iInner (arL64 bl A B) (arH64 bl A B) (-9218868437227405311) 9218868437227405311 w')
  have VL := hd (fun w' (h : Below w0.heap.size w0 w') => iValue64 (.pointer (some ⟨vb, 0, none⟩)) (loN64 bl A B) bd.1.1 bd.1.2 w' (hT.old h))
  have VH := hd (fun w' (h : Below w0.heap.size w0 w') => iValue64 (.pointer (some ⟨vb, 0, none⟩)) (hiN64 bl A B) bd.2.1 bd.2.2 w' (hT.old h))
  change Hid (∀ w', Calls _ _ _ w' fun e w'' => e = .returned (.agg #[.int .i64 (loN64 bl A B), .int .i64 (hiN64 bl A B)]) ∧ _) at IN
  unfold nr64
  obtain ⟨E, hE⟩ : ∃ E, E = nE64 bl A B (loN64 bl A B) (hiN64 bl A B) := ⟨_, rfl⟩
  rw [← hE]
  unfold nE64 at hE
  generalize loN64 bl A B = lo at *
  generalize hiN64 bl A B = hi at *
  obtain ⟨U1, hU1⟩ : ∃ U1, U1 = vA (sz 4503599627370496 lo.natAbs) (pw 4503599627370496 (-1074) lo.natAbs) := ⟨_, rfl⟩
  obtain ⟨Z1, hZ1⟩ : ∃ Z1, Z1 = vB (pw 4503599627370496 (-1074) lo.natAbs) := ⟨_, rfl⟩
  obtain ⟨U2, hU2⟩ : ∃ U2, U2 = vA (sz 4503599627370496 hi.natAbs) (pw 4503599627370496 (-1074) hi.natAbs) := ⟨_, rfl⟩
  obtain ⟨Z2, hZ2⟩ : ∃ Z2, Z2 = vB (pw 4503599627370496 (-1074) hi.natAbs) := ⟨_, rfl⟩
  have z1 : Z1 ≠ 0 := by rw [hZ1]; exact vB_ne _
  have z2 : Z2 ≠ 0 := by rw [hZ2]; exact vB_ne _
  simp only [← hU1, ← hZ1] at VL hE
  simp only [← hU2, ← hZ2] at VH hE
  clear hU1 hZ1 hU2 hZ2
  generalize hs1 : decide (lo < 0) = s1 at *
  generalize hs2 : decide (hi < 0) = s2 at *
  have SD : Hid (∀ o1 p1 o2 p2, SameF (vA o1 p1) (vB p1) U1 Z1 → SameF (vA o2 p2) (vB p2) U2 Z2 → (signI true (su4S bl bl (!s1) (!s2) A B A B (vA o1 p1) (vB p1) (vA o2 p2) (vB p2)) (natL (su4N bl bl (!s1) (!s2) A B A B (vA o1 p1) (vB p1) (vA o2 p2) (vB p2))).length < 0 ↔ E < 0) ∧ (signI true (su4S bl bl (!s1) (!s2) A B A B (vA o1 p1) (vB p1) (vA o2 p2) (vB p2)) (natL (su4N bl bl (!s1) (!s2) A B A B (vA o1 p1) (vB p1) (vA o2 p2) (vB p2))).length = 0 ↔ E = 0)) := by
    intro o1 p1 o2 p2 g1 g2
    rw [hE]
    exact side_iff bl A B s1 s2 _ _ _ _ _ _ _ _ hB0 (vB_ne _) z1 (vB_ne _) z2 g1 g2 _ _ rfl rfl
  have SU := hd (fun o1 p1 o2 p2 ax kx bx dx ay ky by' dy (ho1 : o1 < 9007199254740992) (hp1 : -2000 ≤ p1 ∧ p1 ≤ 2000) (ho2 : o2 < 9007199254740992) (hp2 : -2000 ≤ p2 ∧ p2 ≤ 2000) w1 w2 w' p (h1 : InI w1 ax (natL (vA o1 p1)).length kx (natL (vA o1 p1))) (h2 : InI w1 bx (natL (vB p1)).length dx (natL (vB p1))) (h3 : InI w2 ay (natL (vA o2 p2)).length ky (natL (vA o2 p2))) (h4 : InI w2 by' (natL (vB p2)).length dy (natL (vB p2))) (hp : Cel12 w' p (.bool bl) (.slice a (natL A).length ca) (.slice b (natL B).length cb) (.bool bl) (.slice a (natL A).length ca) (.slice b (natL B).length cb) (.bool (!s1)) (.slice ax (natL (vA o1 p1)).length kx) (.slice bx (natL (vB p1)).length dx) (.bool (!s2)) (.slice ay (natL (vA o2 p2)).length ky) (.slice by' (natL (vB p2)).length dy)) (k0 : Below w0.heap.size w0 w') (k1 : Below w1.heap.size w1 w') (k2 : Below w2.heap.size w2 w') => iSummed4 bl a b ca cb A B bl a b ca cb A B (!s1) ax bx kx dx (vA o1 p1) (vB p1) (!s2) ay by' ky dy (vA o2 p2) (vB p2) w' p hp (hA.old k0) (hB.old k0) lA lB (hA.old k0) (hB.old k0) lA lB (h1.old k1) (h2.old k1) (vA_256 ho1 hp1.2) (vB_256 hp1.1) (h3.old k2) (h4.old k2) (vA_256 ho2 hp2.2) (vB_256 hp2.1) hbl)
  have rlo : Hid (E < 0 ∨ E = 0 ∧ Int.tmod lo 2 = 0 → nrV lo hi E = lo) := fun h => by unfold nrV; rw [if_pos h]
  have rhi : Hid (¬ (E < 0 ∨ E = 0 ∧ Int.tmod lo 2 = 0) → nrV lo hi E = hi) := fun h => by unfold nrV; rw [if_neg h]
  generalize nrV lo hi E = r at *
  clear hA hB lA lB hB0 hbl hT hE bd hV z1 z2
  go_enter Tryz.func179, Tryz.ntmps179
  go_wp2_with fail
  refine (WI.out _).mono ?_
  rintro e w1 ⟨rfl, rfl⟩
  go_wp2_with fail
  refine (TO.out _).mono ?_
  rintro e w1 ⟨rfl, hb1⟩
  replace K := K.old hb1
  replace V := V.later hb1
  replace e0 := old_trans e0 hb1
  clear hb1 WI TO
  obtain ⟨k1, ⟨k2, k3, k4⟩, -⟩ := id K
  go_wp2_with fail
  refine (AR.out _ (old_trans h0 e0) V).mono ?_
  rintro e w2 ⟨rfl, hbv⟩
  replace k2 := (hbv.cell (b := w.heap.size) (i := 0) k1 (by omega)).trans k2
  replace k3 := (hbv.cell (b := w.heap.size) (i := 1) k1 (by omega)).trans k3
  replace k4 := (hbv.cell (b := w.heap.size) (i := 2) k1 (by omega)).trans k4
  have h2 : Below w0.heap.size w0 w2 := (old_trans h0 e0).trans (hbv.below hvb V.lt)
  have BV : ButV vb w w2 := ButV.from e0 hbv
  clear K V AR hbv h0 e0 k1
  go_wp2_with fail
  refine (IN.out _).mono ?_
  rintro e w3 ⟨rfl, hb3⟩
  replace k2 := cell_later hb3 k2
  replace k3 := cell_later hb3 k3
  replace k4 := cell_later hb3 k4
  have hal : Below w3.heap.size w3 (w3.alloc (.cells #[.int .i64 lo, .int .i64 hi] 52)) := old_alloc (Below.refl _ _) _
  have q1 : (w3.alloc (.cells #[.int .i64 lo, .int .i64 hi] 52)).cell? ⟨w3.heap.size, 0, none⟩ = some (.int .i64 lo) := by simp
  have q2 : (w3.alloc (.cells #[.int .i64 lo, .int .i64 hi] 52)).cell? ⟨w3.heap.size, 1, none⟩ = some (.int .i64 hi) := by simp
  replace k2 := cell_later hal k2
  replace k3 := cell_later hal k3
  replace k4 := cell_later hal k4
  have h4 : Below w0.heap.size w0 (w3.alloc (.cells #[.int .i64 lo, .int .i64 hi] 52)) := old_trans (old_trans h2 hb3) hal
  have BV4 := (BV.next hb3).next hal
  clear hb3 hal h2 BV IN
  go_upto_region 3 with fail
  generalize w.heap.size = q at *
  generalize w3.heap.size = pr at *
  generalize w3.alloc (.cells #[.int .i64 lo, .int .i64 hi] 52) = W at *
  have hc0 : W.cell? ⟨pr, 0, none⟩ = some (.int .i64 lo) ∧ W.cell? ⟨pr, 1, none⟩ = some (.int .i64 hi) ∧ W.cell? ⟨q, 0, none⟩ = some (.bool bl) ∧ W.cell? ⟨q, 1, none⟩ = some (.slice a (natL A).length ca) ∧ W.cell? ⟨q, 2, none⟩ = some (.slice b (natL B).length cb) := ⟨q1, q2, k2, k3, k4⟩
  replace VL := hd (fun w' (hS : w'.cell? ⟨pr, 0, none⟩ = some (.int .i64 lo) ∧ w'.cell? ⟨pr, 1, none⟩ = some (.int .i64 hi) ∧ w'.cell? ⟨q, 0, none⟩ = some (.bool bl) ∧ w'.cell? ⟨q, 1, none⟩ = some (.slice a (natL A).length ca) ∧ w'.cell? ⟨q, 2, none⟩ = some (.slice b (natL B).length cb)) (h : Below w0.heap.size w0 w') => (VL.out w' h).mono (fun e w'' (k : _ ∧ _) => (⟨k, five_oldN hS k.2⟩ : (_ ∧ _) ∧ (w''.cell? ⟨pr, 0, none⟩ = some (.int .i64 lo) ∧ w''.cell? ⟨pr, 1, none⟩ = some (.int .i64 hi) ∧ w''.cell? ⟨q, 0, none⟩ = some (.bool bl) ∧ w''.cell? ⟨q, 1, none⟩ = some (.slice a (natL A).length ca) ∧ w''.cell? ⟨q, 2, none⟩ = some (.slice b (natL B).length cb)))))
  replace VH := hd (fun w' (hS : w'.cell? ⟨pr, 0, none⟩ = some (.int .i64 lo) ∧ w'.cell? ⟨pr, 1, none⟩ = some (.int .i64 hi) ∧ w'.cell? ⟨q, 0, none⟩ = some (.bool bl) ∧ w'.cell? ⟨q, 1, none⟩ = some (.slice a (natL A).length ca) ∧ w'.cell? ⟨q, 2, none⟩ = some (.slice b (natL B).length cb)) (h : Below w0.heap.size w0 w') => (VH.out w' h).mono (fun e w'' (k : _ ∧ _) => (⟨k, five_oldN hS k.2⟩ : (_ ∧ _) ∧ (w''.cell? ⟨pr, 0, none⟩ = some (.int .i64 lo) ∧ w''.cell? ⟨pr, 1, none⟩ = some (.int .i64 hi) ∧ w''.cell? ⟨q, 0, none⟩ = some (.bool bl) ∧ w''.cell? ⟨q, 1, none⟩ = some (.slice a (natL A).length ca) ∧ w''.cell? ⟨q, 2, none⟩ = some (.slice b (natL B).length cb)))))
  have US := hd (fun s xa xb ka kb o p w1 w' (I1 : InI w1 xa (natL o).length ka (natL o)) (I2 : InI w1 xb (natL 1).length kb (natL 1)) (ho : o < 9007199254740992) (hp : -2000 ≤ p ∧ p ≤ 2000) (hS : w'.cell? ⟨pr, 0, none⟩ = some (.int .i64 lo) ∧ w'.cell? ⟨pr, 1, none⟩ = some (.int .i64 hi) ∧ w'.cell? ⟨q, 0, none⟩ = some (.bool bl) ∧ w'.cell? ⟨q, 1, none⟩ = some (.slice a (natL A).length ca) ∧ w'.cell? ⟨q, 2, none⟩ = some (.slice b (natL B).length cb)) (h : Below w1.heap.size w1 w') => (iUnscaled s xa xb ka kb o p w' (I1.old h) (I2.old h) ho hp).mono (fun e w'' (k : _ ∧ _) => (⟨k, five_oldN hS k.2⟩ : (_ ∧ _) ∧ (w''.cell? ⟨pr, 0, none⟩ = some (.int .i64 lo) ∧ w''.cell? ⟨pr, 1, none⟩ = some (.int .i64 hi) ∧ w''.cell? ⟨q, 0, none⟩ = some (.bool bl) ∧ w''.cell? ⟨q, 1, none⟩ = some (.slice a (natL A).length ca) ∧ w''.cell? ⟨q, 2, none⟩ = some (.slice b (natL B).length cb)))))
  have NG := hd (fun s xa xb la lb ka kb w' (hS : w'.cell? ⟨pr, 0, none⟩ = some (.int .i64 lo) ∧ w'.cell? ⟨pr, 1, none⟩ = some (.int .i64 hi) ∧ w'.cell? ⟨q, 0, none⟩ = some (.bool bl) ∧ w'.cell? ⟨q, 1, none⟩ = some (.slice a (natL A).length ca) ∧ w'.cell? ⟨q, 2, none⟩ = some (.slice b (natL B).length cb)) => (iNegated s xa xb la lb ka kb w').mono (fun e w'' (k : _ ∧ _) => (⟨k, five_oldN hS k.2⟩ : (_ ∧ _) ∧ (w''.cell? ⟨pr, 0, none⟩ = some (.int .i64 lo) ∧ w''.cell? ⟨pr, 1, none⟩ = some (.int .i64 hi) ∧ w''.cell? ⟨q, 0, none⟩ = some (.bool bl) ∧ w''.cell? ⟨q, 1, none⟩ = some (.slice a (natL A).length ca) ∧ w''.cell? ⟨q, 2, none⟩ = some (.slice b (natL B).length cb)))))
  have SG := hd (fun s xa xb la lb ka kb w' (hS : w'.cell? ⟨pr, 0, none⟩ = some (.int .i64 lo) ∧ w'.cell? ⟨pr, 1, none⟩ = some (.int .i64 hi) ∧ w'.cell? ⟨q, 0, none⟩ = some (.bool bl) ∧ w'.cell? ⟨q, 1, none⟩ = some (.slice a (natL A).length ca) ∧ w'.cell? ⟨q, 2, none⟩ = some (.slice b (natL B).length cb)) (h : la ≤ 9223372036854775807) => (iSign s xa xb la lb ka kb w' h).mono (fun e w'' (k : _ ∧ _) => (⟨k, five_oldN hS k.2⟩ : (_ ∧ _) ∧ (w''.cell? ⟨pr, 0, none⟩ = some (.int .i64 lo) ∧ w''.cell? ⟨pr, 1, none⟩ = some (.int .i64 hi) ∧ w''.cell? ⟨q, 0, none⟩ = some (.bool bl) ∧ w''.cell? ⟨q, 1, none⟩ = some (.slice a (natL A).length ca) ∧ w''.cell? ⟨q, 2, none⟩ = some (.slice b (natL B).length cb)))))
  replace SU := hd (fun o1 p1 o2 p2 ax kx bx dx ay ky by' dy ho1 hp1 ho2 hp2 w1 w2 w' p h1 h2 h3 h4 (hS : w'.cell? ⟨pr, 0, none⟩ = some (.int .i64 lo) ∧ w'.cell? ⟨pr, 1, none⟩ = some (.int .i64 hi) ∧ w'.cell? ⟨q, 0, none⟩ = some (.bool bl) ∧ w'.cell? ⟨q, 1, none⟩ = some (.slice a (natL A).length ca) ∧ w'.cell? ⟨q, 2, none⟩ = some (.slice b (natL B).length cb)) hp k0 k1 k2 => (SU.out o1 p1 o2 p2 ax kx bx dx ay ky by' dy ho1 hp1 ho2 hp2 w1 w2 w' p h1 h2 h3 h4 hp k0 k1 k2).mono (fun e w'' (k : _ ∧ _) => (⟨k, five_oldN hS k.2⟩ : (_ ∧ _) ∧ (w''.cell? ⟨pr, 0, none⟩ = some (.int .i64 lo) ∧ w''.cell? ⟨pr, 1, none⟩ = some (.int .i64 hi) ∧ w''.cell? ⟨q, 0, none⟩ = some (.bool bl) ∧ w''.cell? ⟨q, 1, none⟩ = some (.slice a (natL A).length ca) ∧ w''.cell? ⟨q, 2, none⟩ = some (.slice b (natL B).length cb)))))
  go_region_held3 (fun w' => w'.cell? ⟨pr, 0, none⟩ = some (.int .i64 lo) ∧ w'.cell? ⟨pr, 1, none⟩ = some (.int .i64 hi) ∧ w'.cell? ⟨q, 0, none⟩ = some (.bool bl) ∧ w'.cell? ⟨q, 1, none⟩ = some (.slice a (natL A).length ca) ∧ w'.cell? ⟨q, 2, none⟩ = some (.slice b (natL B).length cb)) (go_keep) (first | (go_at_call 180; first | ((with_reducible refine (VL.out _ ?_ ?_).mono ?_); (focus assumption); (focus repeat (first | with_reducible exact Below.refl _ _ | with_reducible assumption | with_reducible refine Below.drew ?_ | with_reducible refine old_alloc ?_ _ | with_reducible refine old_trans ?_ (by with_reducible assumption))); rintro e wv1 ⟨⟨⟨o1, p1, av1, bv1, cv1, dv1, rfl, OA1, OB1, ho1, hp1, sm1⟩, hbv1⟩, hcv1⟩) | ((with_reducible refine (VH.out _ ?_ ?_).mono ?_); (focus assumption); (focus repeat (first | with_reducible exact Below.refl _ _ | with_reducible assumption | with_reducible refine Below.drew ?_ | with_reducible refine old_alloc ?_ _ | with_reducible refine old_trans ?_ (by with_reducible assumption))); rintro e wv2 ⟨⟨⟨o2, p2, av2, bv2, cv2, dv2, rfl, OA2, OB2, ho2, hp2, sm2⟩, hbv2⟩, hcv2⟩)) | (go_at_call 40; first | ((with_reducible refine (US.out _ _ _ _ _ _ _ _ _ OA1.inI OB1.inI ho1 hp1 ?_ ?_).mono ?_); (focus assumption); (focus repeat (first | with_reducible exact Below.refl _ _ | with_reducible assumption | with_reducible refine Below.drew ?_ | with_reducible refine old_alloc ?_ _ | with_reducible refine old_trans ?_ (by with_reducible assumption))); rintro e wu1 ⟨⟨⟨ax1, kx1, bx1, dx1, rfl, IX1, IY1⟩, hbu1⟩, hcu1⟩) | ((with_reducible refine (US.out _ _ _ _ _ _ _ _ _ OA2.inI OB2.inI ho2 hp2 ?_ ?_).mono ?_); (focus assumption); (focus repeat (first | with_reducible exact Below.refl _ _ | with_reducible assumption | with_reducible refine Below.drew ?_ | with_reducible refine old_alloc ?_ _ | with_reducible refine old_trans ?_ (by with_reducible assumption))); rintro e wu2 ⟨⟨⟨ax2, kx2, bx2, dx2, rfl, IX2, IY2⟩, hbu2⟩, hcu2⟩)) | (go_at_call 157; (with_reducible refine (NG.out _ _ _ _ _ _ _ _ ?_).mono ?_); (focus assumption); rintro e wn ⟨⟨rfl, hbn⟩, hcn⟩) | (go_at_call 156; (with_reducible refine (SU.out _ _ _ _ _ _ _ _ _ _ _ _ ho1 hp1 ho2 hp2 _ _ _ _ IX1 IY1 IX2 IY2 ?_ ?_ ?_ ?_ ?_).mono ?_); (focus assumption); (focus exact Cel12.new _ _ _ _ _ _ _ _ _ _ _ _ _ _); (focus repeat (first | with_reducible exact Below.refl _ _ | with_reducible assumption | with_reducible refine Below.drew ?_ | with_reducible refine old_alloc ?_ _ | with_reducible refine old_trans ?_ (by with_reducible assumption))); (focus repeat (first | with_reducible exact Below.refl _ _ | with_reducible assumption | with_reducible refine Below.drew ?_ | with_reducible refine old_alloc ?_ _ | with_reducible refine old_trans ?_ (by with_reducible assumption))); (focus repeat (first | with_reducible exact Below.refl _ _ | with_reducible assumption | with_reducible refine Below.drew ?_ | with_reducible refine old_alloc ?_ _ | with_reducible refine old_trans ?_ (by with_reducible assumption))); rintro e ws ⟨⟨⟨a1, k1, a2, k2', rfl, hO, hO'⟩, hbs⟩, hcs⟩) | (go_at_call 158; (with_reducible refine (SG.out _ _ _ _ _ _ _ _ ?_ hO.inI.len).mono ?_); (focus assumption); rintro e wz ⟨⟨rfl, hbz⟩, hcz⟩))
  all_goals
    have BZ : ButV vb w wz := BV4.next (by repeat (first | with_reducible exact Below.refl _ _ | with_reducible assumption | with_reducible refine Below.drew ?_ | with_reducible refine old_alloc ?_ _ | with_reducible refine old_trans ?_ (by with_reducible assumption)))
    have sd := hd (SD.out o1 p1 o2 p2 sm1 sm2)
    clear hO hO' US NG SG SU VL VH SD
    generalize signI true (su4S bl bl (!s1) (!s2) A B A B (vA o1 p1) (vB p1) (vA o2 p2) (vB p2)) (natL (su4N bl bl (!s1) (!s2) A B A B (vA o1 p1) (vB p1) (vA o2 p2) (vB p2))).length = sgn at *
    obtain ⟨g1, g2, g3, g4, g5⟩ := id hcz
    by_cases d1 : sgn < 0
    · go_wp2
      go_ret
      exact ⟨retI (rlo.out (Or.inl (sd.out.1.1 d1))), BZ⟩
    by_cases d2 : sgn = 0
    · by_cases d3 : Int.tmod lo 2 = 0
      · go_wp2
        go_ret
        exact ⟨retI (rlo.out (Or.inr ⟨sd.out.2.1 d2, d3⟩)), BZ⟩
      · go_wp2
        go_ret
        exact ⟨retI (rhi.out (fun h => h.elim (fun h => absurd (sd.out.1.2 h) (by omega)) (fun h => absurd h.2 d3))), BZ⟩
    · go_wp2
      go_ret
      exact ⟨retI (rhi.out (fun h => h.elim (fun h => absurd (sd.out.1.2 h) (by omega)) (fun h => absurd (sd.out.2.2 h.1) d2))), BZ⟩
end Go.Proofs.YtgoffjpfddmhhaaGreatDoor

/- The nearest float to a fraction, by the program, at every width and whatever fraction. Conditions: the library's table and its handle of errors lie as their texts lay them. Nothing that was there is written. -/
namespace Go.Proofs.YtgoffjpfddmhhaaGreatDoor
open Go.RowKit
set_option linter.unusedVariables false
set_option maxRecDepth 100000

theorem meth_near_32 (v x : Value) (w : World) : (callMethod (.iface 121 v) "loop.example/pinfold/impl.nearest" #[x]).run Tryz.prog w = .ok (.enter 151 #[v, x]) w := by kernel_rfl
theorem inv_near_32 (v x : Value) (w : World) : (invoke (.fn (.methodOf 59 "loop.example/pinfold/impl.nearest") #[]) #[.iface 121 v, x]).run Tryz.prog w = .ok (.enter 151 #[v, x]) w := by kernel_rfl
set_option maxHeartbeats 4000000 in
theorem iRoundN32 (bl : Bool) (a b : Option Addr) (ca cb A B : Nat) (w : World) (hA : InI w a (natL A).length ca (natL A)) (hB : InI w b (natL B).length cb (natL B)) (hT : Tab w) (hf : fracOk bl (natL A) (natL B) = true) :
    Calls Tryz.prog 32 #[.int .i64 32, .agg #[.bool bl, .slice a (natL A).length ca, .slice b (natL B).length cb], .func (.methodOf 59 "loop.example/pinfold/impl.nearest") #[] #[]] w fun e w' => e = .returned (.tuple #[.int .i64 (nr32 bl A B), .bool true]) ∧ Below w.heap.size w w' := by
  have q := fracOk_in hf
  have q1 := (natOk_in q.1).1
  have q2 := (natOk_in q.2.1).1
  have hy0 : B ≠ 0 := fun e => q.2.2.1 (by rw [e, natL_zero]; rfl)
  have hbl : bl = true → A ≠ 0 := fun h e => q.2.2.2.2 ⟨h, by rw [e, natL_zero]; rfl⟩
  have e0 : Below w.heap.size w (w.alloc (.cells #[.bool bl, .slice a (natL A).length ca, .slice b (natL B).length cb] 25)) := (by repeat (first | exact Below.refl _ _ | refine Below.drew ?_ | refine old_alloc ?_ _ | refine old_trans ?_ (by assumption)))
  have K := Cel3.new w (.bool bl) (.slice a (natL A).length ca) (.slice b (natL B).length cb) 25
  have m1 := inv_near_32
  have m2 := meth_near_32
  have VO := hd iValues32
  have RO := hd (fun w' (h : Below w.heap.size w w') => iRatioOf bl a b (natL A).length (natL B).length ca cb (natL A) (natL B) w' (hA.old h) (hB.old h) (hT.old h))
  have F0 := hd iNoFault
  have CL := hd (fun vb w' (h : Below w.heap.size w w') (hv : w.heap.size ≤ vb) hV => iNearest32 vb 0 bl a b ca cb A B w w' h hv hV (by omega) (by omega) hA hB q1 q2 hy0 hbl hT)
  have hf' : Hid (fracOk bl (natL A) (natL B) = true) := hf
  clear hA hB hT q q1 q2 hy0 hf hbl
  generalize nr32 bl A B = r at *
  go_enter Tryz.func32, Tryz.ntmps32
  go_wp2_with fail
  refine (VO.out _).mono ?_
  rintro e w1 ⟨⟨vb, rfl, hvb, V⟩, hb1⟩
  replace K := K.old hb1
  have hvb' : w.heap.size ≤ vb := Nat.le_trans e0.size hvb
  have hB : Below w.heap.size w w1 := old_trans e0 hb1
  clear hb1 hvb VO e0
  obtain ⟨k0, ⟨k1, k2, k3⟩, -⟩ := id K
  go_wp2_with fail
  refine (RO.out _ hB).mono ?_
  rintro e w2 ⟨he, hb2⟩
  rcases he with ⟨-, rfl⟩ | ⟨hx, -⟩
  rotate_left
  · exact absurd (hf'.out.symm.trans hx) (by simp)
  replace V := V.later hb2
  replace hB := old_trans hB hb2
  clear hb2 k0 k1 k2 k3 K RO
  have ha : Below w2.heap.size w2 (w2.alloc (.cells #[.bool bl, .slice a (natL A).length ca, .slice b (natL B).length cb] 84)) := old_alloc (Below.refl _ _) _
  have K := Cel3.new w2 (.bool bl) (.slice a (natL A).length ca) (.slice b (natL B).length cb) 84
  replace V := V.later ha
  replace hB := old_trans hB ha
  clear ha
  go_wp2_with fail
  refine (F0.out _).mono ?_
  rintro e w3 ⟨rfl, hb3⟩
  replace V := V.later hb3
  replace K := K.old hb3
  replace hB := old_trans hB hb3
  clear hb3 F0
  obtain ⟨k0, ⟨k1, k2, k3⟩, -⟩ := id K
  go_wp2_with fail
  refine (CL.out vb _ hB hvb' V).mono ?_
  rintro e w4 ⟨rfl, hbv⟩
  replace hB := hB.trans (hbv.below (m := w.heap.size) hvb' V.lt)
  clear k0 k1 k2 k3 K CL
  go_wp2
  go_ret2
  exact ⟨rfl, hB⟩
set_option maxHeartbeats 2000000 in
theorem iRoundNF32 (bl : Bool) (a b : Option Addr) (la lb ca cb : Nat) (xs ys : List Int) (w : World) (hA : InI w a la ca xs) (hB : InI w b lb cb ys) (hT : Tab w) (hE : ET w) (hf : fracOk bl xs ys = false) :
    Calls Tryz.prog 32 #[.int .i64 32, .agg #[.bool bl, .slice a la ca, .slice b lb cb], .func (.methodOf 59 "loop.example/pinfold/impl.nearest") #[] #[]] w fun e w' => e = .returned (.tuple #[.int .i64 0, .bool false]) ∧ Below w.heap.size w w' := by
  have e0 : Below w.heap.size w (w.alloc (.cells #[.bool bl, .slice a la ca, .slice b lb cb] 25)) := (by repeat (first | exact Below.refl _ _ | refine Below.drew ?_ | refine old_alloc ?_ _ | refine old_trans ?_ (by assumption)))
  have K := Cel3.new w (.bool bl) (.slice a la ca) (.slice b lb cb) 25
  have VO := hd iValues32
  have RO := hd (fun w' (h : Below w.heap.size w w') => iRatioOf bl a b la lb ca cb xs ys w' (hA.old h) (hB.old h) (hT.old h))
  have F1 := hd (fun s w' (h : Below w.heap.size w w') => iFault s w' (hE.old h))
  have hf' : Hid (fracOk bl xs ys = false) := hf
  clear hA hB hT hE hf
  go_enter Tryz.func32, Tryz.ntmps32
  go_wp2_with fail
  refine (VO.out _).mono ?_
  rintro e w1 ⟨⟨vb, rfl, -, -⟩, hb1⟩
  have hB1 := old_trans e0 hb1
  replace K := K.old hb1
  obtain ⟨k0, ⟨k1, k2, k3⟩, -⟩ := id K
  go_wp2_with fail
  refine (RO.out _ hB1).mono ?_
  rintro e w2 ⟨he, hb2⟩
  have hB2 := old_trans hB1 hb2
  clear k0 k1 k2 k3 K
  rcases he with ⟨hx, -⟩ | ⟨-, s, rfl⟩
  · exact absurd (hf'.out.symm.trans hx) (by simp)
  have ha : Below w2.heap.size w2 (w2.alloc (.cells #[.bool false, .slice none 0 0, .slice none 0 0] 84)) := old_alloc (Below.refl _ _) _
  have hB3 := old_trans hB2 ha
  go_wp2_with fail
  refine (F1.out _ _ hB3).mono ?_
  rintro e w3 ⟨rfl, hb3⟩
  have hB4 := old_trans hB3 hb3
  go_wp2
  go_ret2
  exact ⟨rfl, hB4⟩
theorem meth_near_64 (v x : Value) (w : World) : (callMethod (.iface 124 v) "loop.example/pinfold/impl.nearest" #[x]).run Tryz.prog w = .ok (.enter 179 #[v, x]) w := by kernel_rfl
theorem inv_near_64 (v x : Value) (w : World) : (invoke (.fn (.methodOf 59 "loop.example/pinfold/impl.nearest") #[]) #[.iface 124 v, x]).run Tryz.prog w = .ok (.enter 179 #[v, x]) w := by kernel_rfl
set_option maxHeartbeats 4000000 in
theorem iRoundN64 (bl : Bool) (a b : Option Addr) (ca cb A B : Nat) (w : World) (hA : InI w a (natL A).length ca (natL A)) (hB : InI w b (natL B).length cb (natL B)) (hT : Tab w) (hf : fracOk bl (natL A) (natL B) = true) :
    Calls Tryz.prog 32 #[.int .i64 64, .agg #[.bool bl, .slice a (natL A).length ca, .slice b (natL B).length cb], .func (.methodOf 59 "loop.example/pinfold/impl.nearest") #[] #[]] w fun e w' => e = .returned (.tuple #[.int .i64 (nr64 bl A B), .bool true]) ∧ Below w.heap.size w w' := by
  have q := fracOk_in hf
  have q1 := (natOk_in q.1).1
  have q2 := (natOk_in q.2.1).1
  have hy0 : B ≠ 0 := fun e => q.2.2.1 (by rw [e, natL_zero]; rfl)
  have hbl : bl = true → A ≠ 0 := fun h e => q.2.2.2.2 ⟨h, by rw [e, natL_zero]; rfl⟩
  have e0 : Below w.heap.size w (w.alloc (.cells #[.bool bl, .slice a (natL A).length ca, .slice b (natL B).length cb] 25)) := (by repeat (first | exact Below.refl _ _ | refine Below.drew ?_ | refine old_alloc ?_ _ | refine old_trans ?_ (by assumption)))
  have K := Cel3.new w (.bool bl) (.slice a (natL A).length ca) (.slice b (natL B).length cb) 25
  have m1 := inv_near_64
  have m2 := meth_near_64
  have VO := hd iValues64
  have RO := hd (fun w' (h : Below w.heap.size w w') => iRatioOf bl a b (natL A).length (natL B).length ca cb (natL A) (natL B) w' (hA.old h) (hB.old h) (hT.old h))
  have F0 := hd iNoFault
  have CL := hd (fun vb w' (h : Below w.heap.size w w') (hv : w.heap.size ≤ vb) hV => iNearest64 vb 0 bl a b ca cb A B w w' h hv hV (by omega) (by omega) hA hB q1 q2 hy0 hbl hT)
  have hf' : Hid (fracOk bl (natL A) (natL B) = true) := hf
  clear hA hB hT q q1 q2 hy0 hf hbl
  generalize nr64 bl A B = r at *
  go_enter Tryz.func32, Tryz.ntmps32
  go_wp2_with fail
  refine (VO.out _).mono ?_
  rintro e w1 ⟨⟨vb, rfl, hvb, V⟩, hb1⟩
  replace K := K.old hb1
  have hvb' : w.heap.size ≤ vb := Nat.le_trans e0.size hvb
  have hB : Below w.heap.size w w1 := old_trans e0 hb1
  clear hb1 hvb VO e0
  obtain ⟨k0, ⟨k1, k2, k3⟩, -⟩ := id K
  go_wp2_with fail
  refine (RO.out _ hB).mono ?_
  rintro e w2 ⟨he, hb2⟩
  rcases he with ⟨-, rfl⟩ | ⟨hx, -⟩
  rotate_left
  · exact absurd (hf'.out.symm.trans hx) (by simp)
  replace V := V.later hb2
  replace hB := old_trans hB hb2
  clear hb2 k0 k1 k2 k3 K RO
  have ha : Below w2.heap.size w2 (w2.alloc (.cells #[.bool bl, .slice a (natL A).length ca, .slice b (natL B).length cb] 84)) := old_alloc (Below.refl _ _) _
  have K := Cel3.new w2 (.bool bl) (.slice a (natL A).length ca) (.slice b (natL B).length cb) 84
  replace V := V.later ha
  replace hB := old_trans hB ha
  clear ha
  go_wp2_with fail
  refine (F0.out _).mono ?_
  rintro e w3 ⟨rfl, hb3⟩
  replace V := V.later hb3
  replace K := K.old hb3
  replace hB := old_trans hB hb3
  clear hb3 F0
  obtain ⟨k0, ⟨k1, k2, k3⟩, -⟩ := id K
  go_wp2_with fail
  refine (CL.out vb _ hB hvb' V).mono ?_
  rintro e w4 ⟨rfl, hbv⟩
  replace hB := hB.trans (hbv.below (m := w.heap.size) hvb' V.lt)
  clear k0 k1 k2 k3 K CL
  go_wp2
  go_ret2
  exact ⟨rfl, hB⟩
set_option maxHeartbeats 2000000 in
theorem iRoundNF64 (bl : Bool) (a b : Option Addr) (la lb ca cb : Nat) (xs ys : List Int) (w : World) (hA : InI w a la ca xs) (hB : InI w b lb cb ys) (hT : Tab w) (hE : ET w) (hf : fracOk bl xs ys = false) :
    Calls Tryz.prog 32 #[.int .i64 64, .agg #[.bool bl, .slice a la ca, .slice b lb cb], .func (.methodOf 59 "loop.example/pinfold/impl.nearest") #[] #[]] w fun e w' => e = .returned (.tuple #[.int .i64 0, .bool false]) ∧ Below w.heap.size w w' := by
  have e0 : Below w.heap.size w (w.alloc (.cells #[.bool bl, .slice a la ca, .slice b lb cb] 25)) := (by repeat (first | exact Below.refl _ _ | refine Below.drew ?_ | refine old_alloc ?_ _ | refine old_trans ?_ (by assumption)))
  have K := Cel3.new w (.bool bl) (.slice a la ca) (.slice b lb cb) 25
  have VO := hd iValues64
  have RO := hd (fun w' (h : Below w.heap.size w w') => iRatioOf bl a b la lb ca cb xs ys w' (hA.old h) (hB.old h) (hT.old h))
  have F1 := hd (fun s w' (h : Below w.heap.size w w') => iFault s w' (hE.old h))
  have hf' : Hid (fracOk bl xs ys = false) := hf
  clear hA hB hT hE hf
  go_enter Tryz.func32, Tryz.ntmps32
  go_wp2_with fail
  refine (VO.out _).mono ?_
  rintro e w1 ⟨⟨vb, rfl, -, -⟩, hb1⟩
  have hB1 := old_trans e0 hb1
  replace K := K.old hb1
  obtain ⟨k0, ⟨k1, k2, k3⟩, -⟩ := id K
  go_wp2_with fail
  refine (RO.out _ hB1).mono ?_
  rintro e w2 ⟨he, hb2⟩
  have hB2 := old_trans hB1 hb2
  clear k0 k1 k2 k3 K
  rcases he with ⟨hx, -⟩ | ⟨-, s, rfl⟩
  · exact absurd (hf'.out.symm.trans hx) (by simp)
  have ha : Below w2.heap.size w2 (w2.alloc (.cells #[.bool false, .slice none 0 0, .slice none 0 0] 84)) := old_alloc (Below.refl _ _) _
  have hB3 := old_trans hB2 ha
  go_wp2_with fail
  refine (F1.out _ _ hB3).mono ?_
  rintro e w3 ⟨rfl, hb3⟩
  have hB4 := old_trans hB3 hb3
  go_wp2
  go_ret2
  exact ⟨rfl, hB4⟩
set_option maxHeartbeats 2000000 in
theorem iRoundNW (wd : Int) (g1 : wd ≠ 32) (g2 : wd ≠ 64) (bl : Bool) (a b : Option Addr) (la lb ca cb : Nat) (xs ys : List Int) (w : World) (hA : InI w a la ca xs) (hB : InI w b lb cb ys) (hT : Tab w) :
    Calls Tryz.prog 32 #[.int .i64 wd, .agg #[.bool bl, .slice a la ca, .slice b lb cb], .func (.methodOf 59 "loop.example/pinfold/impl.nearest") #[] #[]] w fun e w' => e = .returned (.tuple #[.int .i64 0, .bool false]) ∧ Below w.heap.size w w' := by
  have e0 : Below w.heap.size w (w.alloc (.cells #[.bool bl, .slice a la ca, .slice b lb cb] 25)) := (by repeat (first | exact Below.refl _ _ | refine Below.drew ?_ | refine old_alloc ?_ _ | refine old_trans ?_ (by assumption)))
  have K := Cel3.new w (.bool bl) (.slice a la ca) (.slice b lb cb) 25
  have VO := hd (iValuesOfNo wd g1 g2)
  have RO := hd (fun w' (h : Below w.heap.size w w') => iRatioOf bl a b la lb ca cb xs ys w' (hA.old h) (hB.old h) (hT.old h))
  clear hA hB hT
  go_enter Tryz.func32, Tryz.ntmps32
  go_wp2_with fail
  refine (VO.out _).mono ?_
  rintro e w1 ⟨rfl, hb1⟩
  have hB1 := old_trans e0 hb1
  replace K := K.old hb1
  obtain ⟨k0, ⟨k1, k2, k3⟩, -⟩ := id K
  go_wp2_with fail
  refine (RO.out _ hB1).mono ?_
  rintro e w2 ⟨he, hb2⟩
  have hB2 := old_trans hB1 hb2
  clear k0 k1 k2 k3 K
  rcases he with ⟨-, rfl⟩ | ⟨-, s, rfl⟩
  · have hB3 := old_alloc hB2 (.cells #[.bool bl, .slice a la ca, .slice b lb cb] 84)
    go_wp2
    go_ret2
    exact ⟨rfl, hB3⟩
  · have hB3 := old_alloc hB2 (.cells #[.bool false, .slice none 0 0, .slice none 0 0] 84)
    go_wp2
    go_ret2
    exact ⟨rfl, hB3⟩
def nrF (wd : Int) (bg : Bool) (xs ys : List Int) : Int := if pfOk wd bg xs ys then (if wd = 32 then nr32 bg (val xs) (val ys) else nr64 bg (val xs) (val ys)) else 0
theorem nrF_no {wd : Int} {bg : Bool} {xs ys : List Int} (h : pfOk wd bg xs ys = false) : nrF wd bg xs ys = 0 := by
  unfold nrF; rw [h]; rfl
theorem iRoundN (wd : Int) (bg : Bool) (a b : Option Addr) (la lb ca cb : Nat) (xs ys : List Int) (w : World) (hA : InI w a la ca xs) (hB : InI w b lb cb ys) (hT : Tab w) (hE : ET w) :
    Calls Tryz.prog 32 #[.int .i64 wd, .agg #[.bool bg, .slice a la ca, .slice b lb cb], .func (.methodOf 59 "loop.example/pinfold/impl.nearest") #[] #[]] w fun e w' => e = .returned (.tuple #[.int .i64 (nrF wd bg xs ys), .bool (pfOk wd bg xs ys)]) ∧ Below w.heap.size w w' := by
  by_cases hw : wd = 32 ∨ wd = 64
  · cases hf : fracOk bg xs ys
    · have ho : pfOk wd bg xs ys = false := by unfold pfOk; rw [hf, Bool.and_false]
      rw [nrF_no ho, ho]
      rcases hw with rfl | rfl
      · exact iRoundNF32 bg a b la lb ca cb xs ys w hA hB hT hE hf
      · exact iRoundNF64 bg a b la lb ca cb xs ys w hA hB hT hE hf
    · have q := fracOk_in hf
      have ex := canon_list q.1
      have ey := canon_list q.2.1
      have ho : pfOk wd bg xs ys = true := by unfold pfOk; rw [hf, decide_eq_true hw]; rfl
      unfold nrF
      rw [ho, if_pos rfl]
      generalize val xs = A at *
      generalize val ys = B at *
      subst ex ey
      obtain rfl := hA.1
      obtain rfl := hB.1
      rcases hw with rfl | rfl
      · exact iRoundN32 bg a b ca cb A B w hA hB hT hf
      · exact iRoundN64 bg a b ca cb A B w hA hB hT hf
  · have ho : pfOk wd bg xs ys = false := by unfold pfOk; rw [decide_eq_false hw]; rfl
    rw [nrF_no ho, ho]
    exact iRoundNW wd (fun e => hw (.inl e)) (fun e => hw (.inr e)) bg a b la lb ca cb xs ys w hA hB hT
set_option maxHeartbeats 2000000 in
theorem iFloatNear (wd : Int) (bg : Bool) (a b : Option Addr) (la lb ca cb : Nat) (xs ys : List Int) (w : World) (hA : InI w a la ca xs) (hB : InI w b lb cb ys) (hT : Tab w) (hE : ET w) :
    Calls Tryz.prog 9 #[.int .i64 wd, .agg #[.bool bg, .slice a la ca, .slice b lb cb]] w fun e w' => e = .returned (.tuple #[.int .i64 (nrF wd bg xs ys), .bool (pfOk wd bg xs ys)]) ∧ Below w.heap.size w w' := by
  have e0 : Below w.heap.size w (w.alloc (.cells #[.bool bg, .slice a la ca, .slice b lb cb] 25)) := (by repeat (first | exact Below.refl _ _ | refine Below.drew ?_ | refine old_alloc ?_ _ | refine old_trans ?_ (by assumption)))
  have K := Cel3.new w (.bool bg) (.slice a la ca) (.slice b lb cb) 25
  have PF := hd (iRoundN wd bg a b la lb ca cb xs ys _ (hA.old e0) (hB.old e0) (hT.old e0) (hE.old e0))
  clear hA hB hT hE
  generalize nrF wd bg xs ys = r at *
  generalize pfOk wd bg xs ys = ok at *
  obtain ⟨k0, ⟨k1, k2, k3⟩, -⟩ := id K
  go_enter Tryz.func9, Tryz.ntmps9
  go_wp2_with fail
  refine PF.out.mono ?_
  rintro e w1 ⟨rfl, hb1⟩
  have hB1 := old_trans e0 hb1
  go_wp2
  go_ret2
  exact ⟨rfl, hB1⟩
end Go.Proofs.YtgoffjpfddmhhaaGreatDoor
