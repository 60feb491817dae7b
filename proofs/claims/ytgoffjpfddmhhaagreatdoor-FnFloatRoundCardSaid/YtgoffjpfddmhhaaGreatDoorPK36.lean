/- Mathematics: bounds of pairs against fractions, with signs, at each width. Conditions: numbers of 256 digits at most. -/
import Derived.Test.YtgoffjpfddmhhaaGreatDoorPK35
import Derived.Test.YtgoffjpfddmhhaaGreatDoorPK26
import Derived.Test.YtgoffjpfddmhhaaGreatDoorPK20
import Derived.Test.YtgoffjpfddmhhaaGreatDoorPK23
import Derived.Test.YtgoffjpfddmhhaaGreatDoorPK22
namespace Go.Proofs.YtgoffjpfddmhhaaGreatDoor
open Go.RowKit
set_option linter.unusedVariables false
set_option maxRecDepth 100000

theorem cmpI_le (a b : Nat) : cmpI a b ≤ 0 ↔ a ≤ b := by
  unfold cmpI
  by_cases h : a < b
  · rw [if_pos h]; constructor <;> intro _ <;> omega
  · rw [if_neg h]
    by_cases g : b < a
    · rw [if_pos g]; constructor <;> intro _ <;> omega
    · rw [if_neg g]; constructor <;> intro _ <;> omega
theorem v_uN (A : Nat) (p : Int) : vB p * A = uN A p := by
  unfold vB uN
  by_cases h : 0 ≤ p
  · rw [if_pos h, if_neg (by omega), Nat.one_mul]
  · rw [if_neg h, if_pos (by omega)]
theorem v_uD (B s : Nat) (p : Int) : B * vA s p = s * uD B p := by
  unfold vA uD
  by_cases h : 0 ≤ p
  · rw [if_pos h, if_neg (by omega), Nat.mul_comm B, Nat.mul_assoc, Nat.mul_comm (2 ^ p.toNat), Nat.mul_assoc, Nat.mul_comm B]
  · rw [if_neg h, if_pos (by omega), Nat.mul_comm]
theorem lo_sign {x y m : Nat} {M t n : Int} {bg : Bool} (L1 : x ≤ y ↔ (m : Int) ≤ M) (L2 : y ≤ x ↔ M + t ≤ (m : Int)) (hx : x = 0 ↔ m = 0) (hy : bg = true → y ≠ 0) (hM : 0 ≤ M) (ht : 0 ≤ t) (hn : n.natAbs = m) :
    cmpS (decide (n < 0)) x bg y ≤ 0 ↔ n ≤ (if bg = true then -(M + t) else M) := by
  have c1 := cmpI_le y x
  have c2 := cmpI_le x y
  unfold cmpS
  by_cases g : n < 0
  · have x0 : x ≠ 0 := fun h => by have := hx.1 h; omega
    rw [decide_eq_true g, if_neg (fun h => x0 h.1), if_pos ⟨rfl, x0⟩]
    cases bg
    · rw [if_neg (by simp), if_neg (by simp)]
      constructor <;> intro _ <;> omega
    · rw [if_pos ⟨rfl, hy rfl⟩, if_pos rfl, c1, L2]
      constructor <;> intro _ <;> omega
  · rw [decide_eq_false g]
    cases bg
    · rw [if_neg (c := false = true ∧ x ≠ 0) (by simp), if_neg (c := false = true ∧ y ≠ 0) (by simp), if_neg (c := false = true) (by simp)]
      by_cases z : x = 0 ∧ y = 0
      · rw [if_pos z]
        have := L1.1 (by omega)
        constructor <;> intro _ <;> omega
      · rw [if_neg z, c2, L1]
        constructor <;> intro _ <;> omega
    · have y0 := hy rfl
      rw [if_neg (fun h => y0 h.2), if_neg (c := false = true ∧ x ≠ 0) (by simp), if_pos ⟨rfl, y0⟩, if_pos rfl]
      constructor
      · intro h; omega
      · intro h
        exfalso
        have m0 : m = 0 := by omega
        have x0 := hx.2 m0
        have : ¬ y ≤ x := by omega
        exact this (L2.2 (by omega))
theorem hi_sign {x y m : Nat} {M t n : Int} {bg : Bool} (L1 : x ≤ y ↔ (m : Int) ≤ M) (L2 : y ≤ x ↔ M + t ≤ (m : Int)) (hx : x = 0 ↔ m = 0) (hy : bg = true → y ≠ 0) (hM : 0 ≤ M) (ht : 0 ≤ t) (hn : n.natAbs = m) :
    cmpS bg y (decide (n < 0)) x ≤ 0 ↔ (if bg = true then -M else M + t) ≤ n := by
  have c1 := cmpI_le y x
  have c2 := cmpI_le x y
  unfold cmpS
  by_cases g : n < 0
  · have x0 : x ≠ 0 := fun h => by have := hx.1 h; omega
    rw [decide_eq_true g, if_neg (fun h => x0 h.2)]
    cases bg
    · rw [if_neg (c := false = true ∧ y ≠ 0) (by simp), if_pos ⟨rfl, x0⟩, if_neg (by simp)]
      constructor <;> intro _ <;> omega
    · rw [if_pos ⟨rfl, hy rfl⟩, if_pos ⟨rfl, x0⟩, if_pos rfl, c2, L1]
      constructor <;> intro _ <;> omega
  · rw [decide_eq_false g]
    cases bg
    · rw [if_neg (c := false = true ∧ y ≠ 0) (by simp), if_neg (c := false = true ∧ x ≠ 0) (by simp), if_neg (c := false = true) (by simp)]
      by_cases z : y = 0 ∧ x = 0
      · rw [if_pos z]
        have := L2.1 (by omega)
        constructor <;> intro _ <;> omega
      · rw [if_neg z, c1, L2]
        constructor <;> intro _ <;> omega
    · have y0 := hy rfl
      rw [if_neg (fun h => y0 h.1), if_pos ⟨rfl, y0⟩, if_neg (c := false = true ∧ x ≠ 0) (by simp), if_pos rfl]
      constructor <;> intro _ <;> omega
theorem sz_zero {U m : Nat} (hU : 0 < U) : sz U m = 0 ↔ m = 0 := by
  unfold sz
  by_cases c : m < U
  · rw [if_pos c]
  · rw [if_neg c]; constructor <;> intro _ <;> omega
theorem e2_23 : (2 : Nat) ^ 23 = 8388608 := by decide
theorem zero_w32 (B : Nat) (lB : (natL B).length ≤ 256) : pbW 0 B 24 (-149) ≤ 104 := by
  have z := (pb_zero (B := B) (room := 24) (least := -149)).2.1
  rw [z]
  unfold pbP
  have := bl_zero
  have := (bl_bd lB).1
  omega
theorem near32 {A B : Nat} (lA : (natL A).length ≤ 256) (lB : (natL B).length ≤ 256) (hB : B ≠ 0) (m : Nat) (hm : m < 2139095040) :
    (B * vA (sz 8388608 m) (pw 8388608 (-149) m) ≤ vB (pw 8388608 (-149) m) * A ↔ (m : Int) ≤ blO32 A B) ∧ (vB (pw 8388608 (-149) m) * A ≤ B * vA (sz 8388608 m) (pw 8388608 (-149) m) ↔ blO32 A B + (if blX32 A B = true then 0 else 1) ≤ (m : Int)) := by
  rw [v_uN, v_uD]
  have hp : pw 8388608 (-149) m ≤ 104 := (pw_bd32 hm).2
  have eF : mkF32 (pbW A B 24 (-149)) = decide (pbW A B 24 (-149) ≤ 104) := by unfold mkF32; exact decide_eq_decide.2 (by omega)
  have hM : blO32 A B = if pbW A B (23 + 1) (-149) ≤ 104 then (if pbS A B (23 + 1) (-149) = 0 then 0 else (pbW A B (23 + 1) (-149) - (-149)) * ((2 ^ 23 : Nat) : Int) + pbS A B (23 + 1) (-149)) else 2139095040 - 1 := by
    rw [e2_23]
    unfold blO32 mkO32
    rw [eF]
    by_cases c : pbW A B 24 (-149) ≤ 104
    · rw [decide_eq_true c, if_pos rfl, if_pos rfl]
      exact (if_pos c).symm
    · rw [decide_eq_false c, if_neg (by decide)]
      exact (if_neg c).symm
  have hX : blX32 A B = (pbX A B (23 + 1) (-149) && decide (pbW A B (23 + 1) (-149) ≤ 104)) := by unfold blX32; rw [eF]
  have h := below_iff (r := 23) (L := -149) (top := 2139095040) (Wm := 104) lA lB hB hM _ hX m (by omega) (by rw [e2_23]; exact hp) (fun e => by subst e; exact zero_w32 B lB)
  rw [e2_23] at h
  exact h
theorem loOk32 {A B : Nat} {bg : Bool} (lA : (natL A).length ≤ 256) (lB : (natL B).length ≤ 256) (hB : B ≠ 0) (ha : bg = true → A ≠ 0) (n : Int) (h1 : -2139095040 < n) (h2 : n < 2139095040) :
    cmpS (decide (n < 0)) (B * vA (sz 8388608 n.natAbs) (pw 8388608 (-149) n.natAbs)) bg (vB (pw 8388608 (-149) n.natAbs) * A) ≤ 0 ↔ n ≤ arL32 bg A B := by
  have h := near32 lA lB hB n.natAbs (by omega)
  have bd := blO_bd32 lA lB hB
  have q := lo_sign (n := n) (bg := bg) h.1 h.2 (by rw [v_uD, Nat.mul_eq_zero, sz_zero (by decide)]; have := uD_pos hB (pw 8388608 (-149) n.natAbs); omega) (fun e => Nat.mul_ne_zero (vB_ne _) (ha e)) bd.1 (by split <;> omega) rfl
  rw [q]
  unfold arL32
  cases bg
  · rw [if_neg (by simp), if_neg (by simp)]
  · rw [if_pos rfl, if_pos rfl]
    by_cases c : blX32 A B = true
    · rw [if_pos c, if_pos c, Int.add_zero]
    · rw [if_neg c, if_neg c]
theorem hiOk32 {A B : Nat} {bg : Bool} (lA : (natL A).length ≤ 256) (lB : (natL B).length ≤ 256) (hB : B ≠ 0) (ha : bg = true → A ≠ 0) (n : Int) (h1 : -2139095040 < n) (h2 : n < 2139095040) :
    cmpS bg (vB (pw 8388608 (-149) n.natAbs) * A) (decide (n < 0)) (B * vA (sz 8388608 n.natAbs) (pw 8388608 (-149) n.natAbs)) ≤ 0 ↔ arH32 bg A B ≤ n := by
  have h := near32 lA lB hB n.natAbs (by omega)
  have bd := blO_bd32 lA lB hB
  have q := hi_sign (n := n) (bg := bg) h.1 h.2 (by rw [v_uD, Nat.mul_eq_zero, sz_zero (by decide)]; have := uD_pos hB (pw 8388608 (-149) n.natAbs); omega) (fun e => Nat.mul_ne_zero (vB_ne _) (ha e)) bd.1 (by split <;> omega) rfl
  rw [q]
  unfold arH32
  cases bg <;> by_cases c : blX32 A B = true <;> simp [c]
theorem e2_52 : (2 : Nat) ^ 52 = 4503599627370496 := by decide
theorem zero_w64 (B : Nat) (lB : (natL B).length ≤ 256) : pbW 0 B 53 (-1074) ≤ 971 := by
  have z := (pb_zero (B := B) (room := 53) (least := -1074)).2.1
  rw [z]
  unfold pbP
  have := bl_zero
  have := (bl_bd lB).1
  omega
theorem near64 {A B : Nat} (lA : (natL A).length ≤ 256) (lB : (natL B).length ≤ 256) (hB : B ≠ 0) (m : Nat) (hm : m < 9218868437227405312) :
    (B * vA (sz 4503599627370496 m) (pw 4503599627370496 (-1074) m) ≤ vB (pw 4503599627370496 (-1074) m) * A ↔ (m : Int) ≤ blO64 A B) ∧ (vB (pw 4503599627370496 (-1074) m) * A ≤ B * vA (sz 4503599627370496 m) (pw 4503599627370496 (-1074) m) ↔ blO64 A B + (if blX64 A B = true then 0 else 1) ≤ (m : Int)) := by
  rw [v_uN, v_uD]
  have hp : pw 4503599627370496 (-1074) m ≤ 971 := (pw_bd hm).2
  have eF : mkF64 (pbW A B 53 (-1074)) = decide (pbW A B 53 (-1074) ≤ 971) := by unfold mkF64; exact decide_eq_decide.2 (by omega)
  have hM : blO64 A B = if pbW A B (52 + 1) (-1074) ≤ 971 then (if pbS A B (52 + 1) (-1074) = 0 then 0 else (pbW A B (52 + 1) (-1074) - (-1074)) * ((2 ^ 52 : Nat) : Int) + pbS A B (52 + 1) (-1074)) else 9218868437227405312 - 1 := by
    rw [e2_52]
    unfold blO64 mkO64
    rw [eF]
    by_cases c : pbW A B 53 (-1074) ≤ 971
    · rw [decide_eq_true c, if_pos rfl, if_pos rfl]
      exact (if_pos c).symm
    · rw [decide_eq_false c, if_neg (by decide)]
      exact (if_neg c).symm
  have hX : blX64 A B = (pbX A B (52 + 1) (-1074) && decide (pbW A B (52 + 1) (-1074) ≤ 971)) := by unfold blX64; rw [eF]
  have h := below_iff (r := 52) (L := -1074) (top := 9218868437227405312) (Wm := 971) lA lB hB hM _ hX m (by omega) (by rw [e2_52]; exact hp) (fun e => by subst e; exact zero_w64 B lB)
  rw [e2_52] at h
  exact h
theorem loOk64 {A B : Nat} {bg : Bool} (lA : (natL A).length ≤ 256) (lB : (natL B).length ≤ 256) (hB : B ≠ 0) (ha : bg = true → A ≠ 0) (n : Int) (h1 : -9218868437227405312 < n) (h2 : n < 9218868437227405312) :
    cmpS (decide (n < 0)) (B * vA (sz 4503599627370496 n.natAbs) (pw 4503599627370496 (-1074) n.natAbs)) bg (vB (pw 4503599627370496 (-1074) n.natAbs) * A) ≤ 0 ↔ n ≤ arL64 bg A B := by
  have h := near64 lA lB hB n.natAbs (by omega)
  have bd := blO_bd64 lA lB hB
  have q := lo_sign (n := n) (bg := bg) h.1 h.2 (by rw [v_uD, Nat.mul_eq_zero, sz_zero (by decide)]; have := uD_pos hB (pw 4503599627370496 (-1074) n.natAbs); omega) (fun e => Nat.mul_ne_zero (vB_ne _) (ha e)) bd.1 (by split <;> omega) rfl
  rw [q]
  unfold arL64
  cases bg
  · rw [if_neg (by simp), if_neg (by simp)]
  · rw [if_pos rfl, if_pos rfl]
    by_cases c : blX64 A B = true
    · rw [if_pos c, if_pos c, Int.add_zero]
    · rw [if_neg c, if_neg c]
theorem hiOk64 {A B : Nat} {bg : Bool} (lA : (natL A).length ≤ 256) (lB : (natL B).length ≤ 256) (hB : B ≠ 0) (ha : bg = true → A ≠ 0) (n : Int) (h1 : -9218868437227405312 < n) (h2 : n < 9218868437227405312) :
    cmpS bg (vB (pw 4503599627370496 (-1074) n.natAbs) * A) (decide (n < 0)) (B * vA (sz 4503599627370496 n.natAbs) (pw 4503599627370496 (-1074) n.natAbs)) ≤ 0 ↔ arH64 bg A B ≤ n := by
  have h := near64 lA lB hB n.natAbs (by omega)
  have bd := blO_bd64 lA lB hB
  have q := hi_sign (n := n) (bg := bg) h.1 h.2 (by rw [v_uD, Nat.mul_eq_zero, sz_zero (by decide)]; have := uD_pos hB (pw 4503599627370496 (-1074) n.natAbs); omega) (fun e => Nat.mul_ne_zero (vB_ne _) (ha e)) bd.1 (by split <;> omega) rfl
  rw [q]
  unfold arH64
  cases bg <;> by_cases c : blX64 A B = true <;> simp [c]
end Go.Proofs.YtgoffjpfddmhhaaGreatDoor

/- Values of floats, rounded again and held against each other: mathematics; FloatFrac as such a value, of the program and of the specification. Conditions, of the program: the library's tables and its handle of errors hold what their texts lay. -/
namespace Go.Proofs.YtgoffjpfddmhhaaGreatDoor
open Go.RowKit
set_option linter.unusedVariables false
set_option maxRecDepth 100000

theorem frac_len {s : Bool} {tl ul : List Int} (hf : fracOk s tl ul = true) : (natL (val tl)).length ≤ 256 ∧ (natL (val ul)).length ≤ 256 ∧ val ul ≠ 0 ∧ (s = true → val tl ≠ 0) := by
  have q := fracOk_in hf
  have e1 := natOk_canon q.1
  have e2 := natOk_canon q.2.1
  refine ⟨by rw [e1]; exact (natOk_in q.1).1, by rw [e2]; exact (natOk_in q.2.1).1, frac_pos hf, fun hs h0 => q.2.2.2.2 ⟨hs, ?_⟩⟩
  rw [h0, natL_zero] at e1
  rw [← e1]
  rfl
theorem sgn_mul {x y p q : Int} (hp : 0 < p) (hq : 0 < q) (h : x * p = q * y) : (x < 0 ↔ y < 0) ∧ (x = 0 ↔ y = 0) := by
  have g1 := pos_iff hp (x := x * p) (y := x) (Int.mul_comm _ _)
  have g2 := pos_iff hq (x := x * p) (y := y) h
  exact ⟨g1.1.symm.trans g2.1, g1.2.symm.trans g2.2⟩
theorem low_len {A B : Nat} (h1 : (natL A).length ≤ 256) (h2 : (natL B).length ≤ 256) (h3 : B ≠ 0) : lowB A B = true :=
  lowB_mk h3 (natL_len.2 (Nat.lt_of_le_of_lt (Nat.div_le_self _ _) (natL_len.1 h1))) (natL_len.2 (Nat.lt_of_le_of_lt (Nat.div_le_self _ _) (natL_len.1 h2)))
/-- the value of the float n is this fraction -/
def FV32 (n : Int) (s : Bool) (tl ul : List Int) : Prop := fracOk s tl ul = true ∧ sg s (val tl) * (vB (pw 8388608 (-149) n.natAbs) : Int) = sg (decide (n < 0)) (vA (sz 8388608 n.natAbs) (pw 8388608 (-149) n.natAbs)) * (val ul : Int)
theorem le32 {s : Bool} {tl ul : List Int} (hf : fracOk s tl ul = true) (k : Int) (h1 : -2139095040 < k) (h2 : k < 2139095040) :
    sg (decide (k < 0)) (vA (sz 8388608 k.natAbs) (pw 8388608 (-149) k.natAbs)) * (val ul : Int) ≤ sg s (val tl) * (vB (pw 8388608 (-149) k.natAbs) : Int) ↔ k ≤ arL32 s (val tl) (val ul) := by
  obtain ⟨lA, lB, hB, ha⟩ := frac_len hf
  have h := loOk32 (bg := s) lA lB hB ha k h1 h2
  have c := cmpS_sg (decide (k < 0)) s (val ul * vA (sz 8388608 k.natAbs) (pw 8388608 (-149) k.natAbs)) (vB (pw 8388608 (-149) k.natAbs) * val tl)
  rw [Nat.mul_comm (val ul), Nat.mul_comm (vB (pw 8388608 (-149) k.natAbs)), sg_mul, sg_mul] at c
  rw [Nat.mul_comm (val ul), Nat.mul_comm (vB (pw 8388608 (-149) k.natAbs))] at h
  rw [← h]
  omega
theorem ge32 {s : Bool} {tl ul : List Int} (hf : fracOk s tl ul = true) (k : Int) (h1 : -2139095040 < k) (h2 : k < 2139095040) :
    sg s (val tl) * (vB (pw 8388608 (-149) k.natAbs) : Int) ≤ sg (decide (k < 0)) (vA (sz 8388608 k.natAbs) (pw 8388608 (-149) k.natAbs)) * (val ul : Int) ↔ arH32 s (val tl) (val ul) ≤ k := by
  obtain ⟨lA, lB, hB, ha⟩ := frac_len hf
  have h := hiOk32 (bg := s) lA lB hB ha k h1 h2
  have c := cmpS_sg s (decide (k < 0)) (vB (pw 8388608 (-149) k.natAbs) * val tl) (val ul * vA (sz 8388608 k.natAbs) (pw 8388608 (-149) k.natAbs))
  rw [Nat.mul_comm (val ul), Nat.mul_comm (vB (pw 8388608 (-149) k.natAbs)), sg_mul, sg_mul] at c
  rw [Nat.mul_comm (val ul), Nat.mul_comm (vB (pw 8388608 (-149) k.natAbs))] at h
  rw [← h]
  omega
theorem made32 {n : Int} (h1 : -2139095040 < n) (h2 : n < 2139095040) : ∃ (s : Bool) (tl ul : List Int), FV32 n s tl ul ∧
    (∀ w, Calls Tryz.prog 16 #[.int .i64 32, .int .i64 n] w fun e w' => (∃ av cv av' cv', e = .returned (.tuple #[.agg #[.bool s, .slice av tl.length cv, .slice av' ul.length cv'], .bool true]) ∧ OI w' w.heap.size av cv tl ∧ OI w' w.heap.size av' cv' ul) ∧ Below w.heap.size w w') ∧
    (∀ w, Tab w ∧ ET w → Calls Tryz.prog 12 #[.int .i64 32, .int .i64 n] w fun e w' => (∃ av cv av' cv', e = .returned (.tuple #[.agg #[.bool s, .slice av tl.length cv, .slice av' ul.length cv'], .bool true]) ∧ OI w' w.heap.size av cv tl ∧ OI w' w.heap.size av' cv' ul) ∧ Below w.heap.size w w') := by
  have S := fun w => sFloatFrac32 n h1 h2 w
  have I := fun w (hT : Tab w ∧ ET w) => iFloatFrac32 n h1 h2 w hT.1 hT.2
  have hp := pw_bd32 (show n.natAbs < 2139095040 by omega)
  have hs : sz 8388608 n.natAbs < 9007199254740992 := (Nat.lt_of_lt_of_le sz_bd32 (by omega))
  have u1 := vA_256 hs (p := pw 8388608 (-149) n.natAbs) (by omega)
  have u2 := vB_256 (p := pw 8388608 (-149) n.natAbs) (by omega)
  have u3 := vB_ne (pw 8388608 (-149) n.natAbs)
  unfold FV32
  generalize vA (sz 8388608 n.natAbs) (pw 8388608 (-149) n.natAbs) = A at *
  generalize vB (pw 8388608 (-149) n.natAbs) = B at *
  generalize decide (n < 0) = g at *
  have lw := low_len u1 u2 u3
  rw [lw] at S I
  have f := fres_in (s := g) (A := A) (B := B) (sg := fS true g A) (tl := fT true A B) (ul := fU true A B) (by unfold fres; rw [lw])
  refine ⟨_, _, _, ⟨f.1, f.2.1⟩, fun w => (S w).mono ?_, fun w hT => (I w hT).mono ?_⟩
  · rintro e w' ⟨⟨av, cv, av', cv', e1, O1, O2, -⟩, hb⟩
    exact ⟨⟨av, cv, av', cv', e1, O1, O2⟩, hb⟩
  · rintro e w' ⟨⟨av, cv, av', cv', e1, O1, O2, -⟩, hb⟩
    exact ⟨⟨av, cv, av', cv', e1, O1, O2⟩, hb⟩
/-- the value of the float n is this fraction -/
def FV64 (n : Int) (s : Bool) (tl ul : List Int) : Prop := fracOk s tl ul = true ∧ sg s (val tl) * (vB (pw 4503599627370496 (-1074) n.natAbs) : Int) = sg (decide (n < 0)) (vA (sz 4503599627370496 n.natAbs) (pw 4503599627370496 (-1074) n.natAbs)) * (val ul : Int)
theorem le64 {s : Bool} {tl ul : List Int} (hf : fracOk s tl ul = true) (k : Int) (h1 : -9218868437227405312 < k) (h2 : k < 9218868437227405312) :
    sg (decide (k < 0)) (vA (sz 4503599627370496 k.natAbs) (pw 4503599627370496 (-1074) k.natAbs)) * (val ul : Int) ≤ sg s (val tl) * (vB (pw 4503599627370496 (-1074) k.natAbs) : Int) ↔ k ≤ arL64 s (val tl) (val ul) := by
  obtain ⟨lA, lB, hB, ha⟩ := frac_len hf
  have h := loOk64 (bg := s) lA lB hB ha k h1 h2
  have c := cmpS_sg (decide (k < 0)) s (val ul * vA (sz 4503599627370496 k.natAbs) (pw 4503599627370496 (-1074) k.natAbs)) (vB (pw 4503599627370496 (-1074) k.natAbs) * val tl)
  rw [Nat.mul_comm (val ul), Nat.mul_comm (vB (pw 4503599627370496 (-1074) k.natAbs)), sg_mul, sg_mul] at c
  rw [Nat.mul_comm (val ul), Nat.mul_comm (vB (pw 4503599627370496 (-1074) k.natAbs))] at h
  rw [← h]
  omega
theorem ge64 {s : Bool} {tl ul : List Int} (hf : fracOk s tl ul = true) (k : Int) (h1 : -9218868437227405312 < k) (h2 : k < 9218868437227405312) :
    sg s (val tl) * (vB (pw 4503599627370496 (-1074) k.natAbs) : Int) ≤ sg (decide (k < 0)) (vA (sz 4503599627370496 k.natAbs) (pw 4503599627370496 (-1074) k.natAbs)) * (val ul : Int) ↔ arH64 s (val tl) (val ul) ≤ k := by
  obtain ⟨lA, lB, hB, ha⟩ := frac_len hf
  have h := hiOk64 (bg := s) lA lB hB ha k h1 h2
  have c := cmpS_sg s (decide (k < 0)) (vB (pw 4503599627370496 (-1074) k.natAbs) * val tl) (val ul * vA (sz 4503599627370496 k.natAbs) (pw 4503599627370496 (-1074) k.natAbs))
  rw [Nat.mul_comm (val ul), Nat.mul_comm (vB (pw 4503599627370496 (-1074) k.natAbs)), sg_mul, sg_mul] at c
  rw [Nat.mul_comm (val ul), Nat.mul_comm (vB (pw 4503599627370496 (-1074) k.natAbs))] at h
  rw [← h]
  omega
theorem made64 {n : Int} (h1 : -9218868437227405312 < n) (h2 : n < 9218868437227405312) : ∃ (s : Bool) (tl ul : List Int), FV64 n s tl ul ∧
    (∀ w, Calls Tryz.prog 16 #[.int .i64 64, .int .i64 n] w fun e w' => (∃ av cv av' cv', e = .returned (.tuple #[.agg #[.bool s, .slice av tl.length cv, .slice av' ul.length cv'], .bool true]) ∧ OI w' w.heap.size av cv tl ∧ OI w' w.heap.size av' cv' ul) ∧ Below w.heap.size w w') ∧
    (∀ w, Tab w ∧ ET w → Calls Tryz.prog 12 #[.int .i64 64, .int .i64 n] w fun e w' => (∃ av cv av' cv', e = .returned (.tuple #[.agg #[.bool s, .slice av tl.length cv, .slice av' ul.length cv'], .bool true]) ∧ OI w' w.heap.size av cv tl ∧ OI w' w.heap.size av' cv' ul) ∧ Below w.heap.size w w') := by
  have S := fun w => sFloatFrac64 n h1 h2 w
  have I := fun w (hT : Tab w ∧ ET w) => iFloatFrac64 n h1 h2 w hT.1 hT.2
  have hp := pw_bd (show n.natAbs < 9218868437227405312 by omega)
  have hs : sz 4503599627370496 n.natAbs < 9007199254740992 := sz_bd
  have u1 := vA_256 hs (p := pw 4503599627370496 (-1074) n.natAbs) (by omega)
  have u2 := vB_256 (p := pw 4503599627370496 (-1074) n.natAbs) (by omega)
  have u3 := vB_ne (pw 4503599627370496 (-1074) n.natAbs)
  unfold FV64
  generalize vA (sz 4503599627370496 n.natAbs) (pw 4503599627370496 (-1074) n.natAbs) = A at *
  generalize vB (pw 4503599627370496 (-1074) n.natAbs) = B at *
  generalize decide (n < 0) = g at *
  have lw := low_len u1 u2 u3
  rw [lw] at S I
  have f := fres_in (s := g) (A := A) (B := B) (sg := fS true g A) (tl := fT true A B) (ul := fU true A B) (by unfold fres; rw [lw])
  refine ⟨_, _, _, ⟨f.1, f.2.1⟩, fun w => (S w).mono ?_, fun w hT => (I w hT).mono ?_⟩
  · rintro e w' ⟨⟨av, cv, av', cv', e1, O1, O2, -⟩, hb⟩
    exact ⟨⟨av, cv, av', cv', e1, O1, O2⟩, hb⟩
  · rintro e w' ⟨⟨av, cv, av', cv', e1, O1, O2, -⟩, hb⟩
    exact ⟨⟨av, cv, av', cv', e1, O1, O2⟩, hb⟩
end Go.Proofs.YtgoffjpfddmhhaaGreatDoor

/- How a fraction lies between the floats next to it, and which one is the nearest: mathematics. No condition. -/
namespace Go.Proofs.YtgoffjpfddmhhaaGreatDoor
open Go.RowKit
set_option linter.unusedVariables false
set_option maxRecDepth 100000

theorem mid_sign {F a1 a2 P Q : Int} {ys u1 u2 B1 B2 Up Uq : Nat} (A1 A2 : Int) (hy : 0 < ys) (h1 : 0 < u1) (h2 : 0 < u2) (b1 : 0 < B1) (b2 : 0 < B2) (hp : 0 < Up) (hq : 0 < Uq)
    (f1 : a1 * (B1 : Int) = A1 * (u1 : Int)) (f2 : a2 * (B2 : Int) = A2 * (u2 : Int)) (eP : P * ((ys : Int) * (u1 : Int)) = (F * u1 - a1 * ys) * (Up : Int)) (eQ : Q * ((u2 : Int) * (ys : Int)) = (a2 * ys - F * u2) * (Uq : Int)) :
    (P * (Uq : Int) - Q * (Up : Int) < 0 ↔ 2 * F * (B1 * B2 : Int) - (A1 * (B2 : Int) + A2 * (B1 : Int)) * (ys : Int) < 0) ∧ (P * (Uq : Int) - Q * (Up : Int) = 0 ↔ 2 * F * (B1 * B2 : Int) - (A1 * (B2 : Int) + A2 * (B1 : Int)) * (ys : Int) = 0) := by
  have i0 : (0 : Int) < ys := by omega
  have i1 : (0 : Int) < u1 := by omega
  have i2 : (0 : Int) < u2 := by omega
  have i3 : (0 : Int) < B1 := by omega
  have i4 : (0 : Int) < B2 := by omega
  have i5 : (0 : Int) < Up := by omega
  have i6 : (0 : Int) < Uq := by omega
  have e1 : (P * (Uq : Int) - Q * (Up : Int)) * ((ys : Int) * u1 * u2) = ((Up : Int) * Uq) * (2 * F * u1 * u2 - a1 * ys * u2 - a2 * ys * u1) := by grind
  have e2 : (2 * F * u1 * u2 - a1 * ys * u2 - a2 * ys * u1) * ((B1 : Int) * B2) = ((u1 : Int) * u2) * (2 * F * (B1 * B2 : Int) - (A1 * (B2 : Int) + A2 * (B1 : Int)) * (ys : Int)) := by grind
  have s1 := sgn_mul (Int.mul_pos (Int.mul_pos i0 i1) i2) (Int.mul_pos i5 i6) e1
  have s2 := sgn_mul (Int.mul_pos i3 i4) (Int.mul_pos i1 i2) e2
  exact ⟨s1.1.trans s2.1, s1.2.trans s2.2⟩
theorem around32 {s : Bool} {xs ys : List Int} (hf : fracOk s xs ys = true) : (-2139095040 ≤ arL32 s (val xs) (val ys) ∧ arL32 s (val xs) (val ys) < 2139095040) ∧ (-2139095040 < arH32 s (val xs) (val ys) ∧ arH32 s (val xs) (val ys) ≤ 2139095040) ∧ arL32 s (val xs) (val ys) ≤ arH32 s (val xs) (val ys) ∧ arH32 s (val xs) (val ys) ≤ arL32 s (val xs) (val ys) + 1 := by
  obtain ⟨lA, lB, hB, ha⟩ := frac_len hf
  have bd := blO_bd32 lA lB hB
  unfold arL32 arH32
  cases s <;> cases blX32 (val xs) (val ys) <;> simp <;> omega
theorem near32R {s : Bool} {xs ys : List Int} (hf : fracOk s xs ys = true) : -2139095040 < nr32 s (val xs) (val ys) ∧ nr32 s (val xs) (val ys) < 2139095040 := by
  obtain ⟨lA, lB, hB, ha⟩ := frac_len hf
  have h := lohi32 (bl := s) lA lB hB
  unfold nr32 nrV
  split <;> omega
theorem cmpLo32 {s s1 : Bool} {xs ys t1 u1 : List Int} (hf : fracOk s xs ys = true) (h1 : -2139095040 < arL32 s (val xs) (val ys)) (g : FV32 (arL32 s (val xs) (val ys)) s1 t1 u1) : (c3 (pab s1 t1 u1 s xs ys) = -1 ∧ arL32 s (val xs) (val ys) ≠ arH32 s (val xs) (val ys)) ∨ (c3 (pab s1 t1 u1 s xs ys) = 0 ∧ arL32 s (val xs) (val ys) = arH32 s (val xs) (val ys)) := by
  have ar := around32 hf
  have a1 := (le32 hf (arL32 s (val xs) (val ys)) h1 ar.1.2).2 (Int.le_refl _)
  have a2 := ge32 hf (arL32 s (val xs) (val ys)) h1 ar.1.2
  have p0 : (0 : Int) < (vB (pw 8388608 (-149) (arL32 s (val xs) (val ys)).natAbs) : Int) := by have := vB_ne (pw 8388608 (-149) (arL32 s (val xs) (val ys)).natAbs); omega
  have p1 : (0 : Int) < (val u1 : Int) := by have := frac_pos g.1; omega
  have e : pab s1 t1 u1 s xs ys * (vB (pw 8388608 (-149) (arL32 s (val xs) (val ys)).natAbs) : Int) = (val u1 : Int) * (sg (decide (arL32 s (val xs) (val ys) < 0)) (vA (sz 8388608 (arL32 s (val xs) (val ys)).natAbs) (pw 8388608 (-149) (arL32 s (val xs) (val ys)).natAbs)) * (val ys : Int) - sg s (val xs) * (vB (pw 8388608 (-149) (arL32 s (val xs) (val ys)).natAbs) : Int)) := by
    have e0 := g.2
    have ea : fv s (val xs) = sg s (val xs) := rfl
    have eb : fv s1 (val t1) = sg s1 (val t1) := rfl
    unfold pab
    rw [ea, eb]
    grind
  have q := sgn_mul p0 p1 e
  unfold c3
  by_cases c : arL32 s (val xs) (val ys) = arH32 s (val xs) (val ys)
  · right
    refine ⟨?_, c⟩
    have := a2.2 (by omega)
    rw [if_neg (by omega), if_neg (by omega)]
  · left
    refine ⟨?_, c⟩
    have : ¬ (arH32 s (val xs) (val ys) ≤ arL32 s (val xs) (val ys)) := by omega
    have := mt a2.1 this
    rw [if_pos (by omega)]
theorem cmpHi32 {s s2 : Bool} {xs ys t2 u2 : List Int} (hf : fracOk s xs ys = true) (h2 : arH32 s (val xs) (val ys) < 2139095040) (g : FV32 (arH32 s (val xs) (val ys)) s2 t2 u2) : c3 (pab s xs ys s2 t2 u2) = -1 ∨ c3 (pab s xs ys s2 t2 u2) = 0 := by
  have ar := around32 hf
  have a1 := (ge32 hf (arH32 s (val xs) (val ys)) ar.2.1.1 h2).2 (Int.le_refl _)
  have p0 : (0 : Int) < (vB (pw 8388608 (-149) (arH32 s (val xs) (val ys)).natAbs) : Int) := by have := vB_ne (pw 8388608 (-149) (arH32 s (val xs) (val ys)).natAbs); omega
  have p1 : (0 : Int) < (val u2 : Int) := by have := frac_pos g.1; omega
  have e : pab s xs ys s2 t2 u2 * (vB (pw 8388608 (-149) (arH32 s (val xs) (val ys)).natAbs) : Int) = (val u2 : Int) * (sg s (val xs) * (vB (pw 8388608 (-149) (arH32 s (val xs) (val ys)).natAbs) : Int) - sg (decide (arH32 s (val xs) (val ys) < 0)) (vA (sz 8388608 (arH32 s (val xs) (val ys)).natAbs) (pw 8388608 (-149) (arH32 s (val xs) (val ys)).natAbs)) * (val ys : Int)) := by
    have e0 := g.2
    have ea : fv s (val xs) = sg s (val xs) := rfl
    have eb : fv s2 (val t2) = sg s2 (val t2) := rfl
    unfold pab
    rw [ea, eb]
    grind
  have q := sgn_mul p0 p1 e
  unfold c3
  by_cases c : pab s xs ys s2 t2 u2 < 0
  · left; rw [if_pos c]
  · right; rw [if_neg c, if_neg (by omega)]
theorem mid32 {s s1 s2 : Bool} {xs ys t1 u1 t2 u2 : List Int} (hf : fracOk s xs ys = true) (h1 : -2139095040 < arL32 s (val xs) (val ys)) (h2 : arH32 s (val xs) (val ys) < 2139095040) (g1 : FV32 (arL32 s (val xs) (val ys)) s1 t1 u1) (g2 : FV32 (arH32 s (val xs) (val ys)) s2 t2 u2) {P Q : Int} {Up Uq : Nat} (hUp : Up ≠ 0) (hUq : Uq ≠ 0)
    (eP : P * ((val ys * val u1 : Nat) : Int) = (fv s (val xs) * val u1 - fv s1 (val t1) * val ys) * (Up : Int)) (eQ : Q * ((val u2 * val ys : Nat) : Int) = (fv s2 (val t2) * val ys - fv s (val xs) * val u2) * (Uq : Int)) :
    (P * (Uq : Int) - Q * (Up : Int) < 0 → nr32 s (val xs) (val ys) = arL32 s (val xs) (val ys)) ∧ (0 < P * (Uq : Int) - Q * (Up : Int) → nr32 s (val xs) (val ys) = arH32 s (val xs) (val ys)) ∧ (P * (Uq : Int) - Q * (Up : Int) = 0 → arL32 s (val xs) (val ys) ≠ arH32 s (val xs) (val ys) → Int.tmod (nr32 s (val xs) (val ys)) 2 = 0) ∧ (nr32 s (val xs) (val ys) = arL32 s (val xs) (val ys) ∨ nr32 s (val xs) (val ys) = arH32 s (val xs) (val ys)) := by
  have ar := around32 hf
  have n1 : loN32 s (val xs) (val ys) = arL32 s (val xs) (val ys) := by unfold loN32; omega
  have n2 : hiN32 s (val xs) (val ys) = arH32 s (val xs) (val ys) := by unfold hiN32; omega
  have hn : nr32 s (val xs) (val ys) = nrV (arL32 s (val xs) (val ys)) (arH32 s (val xs) (val ys)) (nE32 s (val xs) (val ys) (arL32 s (val xs) (val ys)) (arH32 s (val xs) (val ys))) := by unfold nr32; rw [n1, n2]
  have k0 := frac_pos hf
  have k1 := frac_pos g1.1
  have k2 := frac_pos g2.1
  have k3 := vB_ne (pw 8388608 (-149) (arL32 s (val xs) (val ys)).natAbs)
  have k4 := vB_ne (pw 8388608 (-149) (arH32 s (val xs) (val ys)).natAbs)
  have f1 := g1.2
  have f2 := g2.2
  unfold nE32 at hn
  generalize vA (sz 8388608 (arL32 s (val xs) (val ys)).natAbs) (pw 8388608 (-149) (arL32 s (val xs) (val ys)).natAbs) = A1 at *
  generalize vB (pw 8388608 (-149) (arL32 s (val xs) (val ys)).natAbs) = B1 at *
  generalize vA (sz 8388608 (arH32 s (val xs) (val ys)).natAbs) (pw 8388608 (-149) (arH32 s (val xs) (val ys)).natAbs) = A2 at *
  generalize vB (pw 8388608 (-149) (arH32 s (val xs) (val ys)).natAbs) = B2 at *
  have key := mid_sign (F := fv s (val xs)) (a1 := fv s1 (val t1)) (a2 := fv s2 (val t2)) (sg (decide (arL32 s (val xs) (val ys) < 0)) A1) (sg (decide (arH32 s (val xs) (val ys) < 0)) A2) (Nat.pos_of_ne_zero k0) (Nat.pos_of_ne_zero k1) (Nat.pos_of_ne_zero k2) (Nat.pos_of_ne_zero k3) (Nat.pos_of_ne_zero k4) (Nat.pos_of_ne_zero hUp) (Nat.pos_of_ne_zero hUq) f1 f2 (by rw [← Int.natCast_mul]; exact eP) (by rw [← Int.natCast_mul]; exact eQ)
  have ed : dE s (val xs) (val ys) (decide (arL32 s (val xs) (val ys) < 0)) A1 B1 (decide (arH32 s (val xs) (val ys) < 0)) A2 B2 = 2 * fv s (val xs) * (B1 * B2 : Int) - (sg (decide (arL32 s (val xs) (val ys) < 0)) A1 * (B2 : Int) + sg (decide (arH32 s (val xs) (val ys) < 0)) A2 * (B1 : Int)) * (val ys : Int) := by
    unfold dE
    have ea : fv s (val xs) = sg s (val xs) := rfl
    rw [ea]
    grind
  rw [← ed] at key
  generalize dE s (val xs) (val ys) (decide (arL32 s (val xs) (val ys) < 0)) A1 B1 (decide (arH32 s (val xs) (val ys) < 0)) A2 B2 = E at *
  generalize arL32 s (val xs) (val ys) = l at *
  generalize arH32 s (val xs) (val ys) = h at *
  rw [hn]
  unfold nrV
  refine ⟨fun c => ?_, fun c => ?_, fun c c2 => ?_, ?_⟩
  · rw [if_pos (Or.inl (key.1.1 c))]
  · rw [if_neg (by intro q; rcases q with q | q <;> omega)]
  · have e0 := key.2.1 c
    by_cases m : Int.tmod l 2 = 0
    · rw [if_pos (Or.inr ⟨e0, m⟩)]; exact m
    · rw [if_neg (by intro q; rcases q with q | q; · omega
                     · exact m q.2)]
      have hh : h = l + 1 := by omega
      subst hh
      have d1 : ¬ (2 : Int) ∣ l := fun d => m (Int.tmod_eq_zero_of_dvd d)
      exact Int.tmod_eq_zero_of_dvd (by omega)
  · split
    · exact Or.inl rfl
    · exact Or.inr rfl
theorem around64 {s : Bool} {xs ys : List Int} (hf : fracOk s xs ys = true) : (-9218868437227405312 ≤ arL64 s (val xs) (val ys) ∧ arL64 s (val xs) (val ys) < 9218868437227405312) ∧ (-9218868437227405312 < arH64 s (val xs) (val ys) ∧ arH64 s (val xs) (val ys) ≤ 9218868437227405312) ∧ arL64 s (val xs) (val ys) ≤ arH64 s (val xs) (val ys) ∧ arH64 s (val xs) (val ys) ≤ arL64 s (val xs) (val ys) + 1 := by
  obtain ⟨lA, lB, hB, ha⟩ := frac_len hf
  have bd := blO_bd64 lA lB hB
  unfold arL64 arH64
  cases s <;> cases blX64 (val xs) (val ys) <;> simp <;> omega
theorem near64R {s : Bool} {xs ys : List Int} (hf : fracOk s xs ys = true) : -9218868437227405312 < nr64 s (val xs) (val ys) ∧ nr64 s (val xs) (val ys) < 9218868437227405312 := by
  obtain ⟨lA, lB, hB, ha⟩ := frac_len hf
  have h := lohi64 (bl := s) lA lB hB
  unfold nr64 nrV
  split <;> omega
theorem cmpLo64 {s s1 : Bool} {xs ys t1 u1 : List Int} (hf : fracOk s xs ys = true) (h1 : -9218868437227405312 < arL64 s (val xs) (val ys)) (g : FV64 (arL64 s (val xs) (val ys)) s1 t1 u1) : (c3 (pab s1 t1 u1 s xs ys) = -1 ∧ arL64 s (val xs) (val ys) ≠ arH64 s (val xs) (val ys)) ∨ (c3 (pab s1 t1 u1 s xs ys) = 0 ∧ arL64 s (val xs) (val ys) = arH64 s (val xs) (val ys)) := by
  have ar := around64 hf
  have a1 := (le64 hf (arL64 s (val xs) (val ys)) h1 ar.1.2).2 (Int.le_refl _)
  have a2 := ge64 hf (arL64 s (val xs) (val ys)) h1 ar.1.2
  have p0 : (0 : Int) < (vB (pw 4503599627370496 (-1074) (arL64 s (val xs) (val ys)).natAbs) : Int) := by have := vB_ne (pw 4503599627370496 (-1074) (arL64 s (val xs) (val ys)).natAbs); omega
  have p1 : (0 : Int) < (val u1 : Int) := by have := frac_pos g.1; omega
  have e : pab s1 t1 u1 s xs ys * (vB (pw 4503599627370496 (-1074) (arL64 s (val xs) (val ys)).natAbs) : Int) = (val u1 : Int) * (sg (decide (arL64 s (val xs) (val ys) < 0)) (vA (sz 4503599627370496 (arL64 s (val xs) (val ys)).natAbs) (pw 4503599627370496 (-1074) (arL64 s (val xs) (val ys)).natAbs)) * (val ys : Int) - sg s (val xs) * (vB (pw 4503599627370496 (-1074) (arL64 s (val xs) (val ys)).natAbs) : Int)) := by
    have e0 := g.2
    have ea : fv s (val xs) = sg s (val xs) := rfl
    have eb : fv s1 (val t1) = sg s1 (val t1) := rfl
    unfold pab
    rw [ea, eb]
    grind
  have q := sgn_mul p0 p1 e
  unfold c3
  by_cases c : arL64 s (val xs) (val ys) = arH64 s (val xs) (val ys)
  · right
    refine ⟨?_, c⟩
    have := a2.2 (by omega)
    rw [if_neg (by omega), if_neg (by omega)]
  · left
    refine ⟨?_, c⟩
    have : ¬ (arH64 s (val xs) (val ys) ≤ arL64 s (val xs) (val ys)) := by omega
    have := mt a2.1 this
    rw [if_pos (by omega)]
theorem cmpHi64 {s s2 : Bool} {xs ys t2 u2 : List Int} (hf : fracOk s xs ys = true) (h2 : arH64 s (val xs) (val ys) < 9218868437227405312) (g : FV64 (arH64 s (val xs) (val ys)) s2 t2 u2) : c3 (pab s xs ys s2 t2 u2) = -1 ∨ c3 (pab s xs ys s2 t2 u2) = 0 := by
  have ar := around64 hf
  have a1 := (ge64 hf (arH64 s (val xs) (val ys)) ar.2.1.1 h2).2 (Int.le_refl _)
  have p0 : (0 : Int) < (vB (pw 4503599627370496 (-1074) (arH64 s (val xs) (val ys)).natAbs) : Int) := by have := vB_ne (pw 4503599627370496 (-1074) (arH64 s (val xs) (val ys)).natAbs); omega
  have p1 : (0 : Int) < (val u2 : Int) := by have := frac_pos g.1; omega
  have e : pab s xs ys s2 t2 u2 * (vB (pw 4503599627370496 (-1074) (arH64 s (val xs) (val ys)).natAbs) : Int) = (val u2 : Int) * (sg s (val xs) * (vB (pw 4503599627370496 (-1074) (arH64 s (val xs) (val ys)).natAbs) : Int) - sg (decide (arH64 s (val xs) (val ys) < 0)) (vA (sz 4503599627370496 (arH64 s (val xs) (val ys)).natAbs) (pw 4503599627370496 (-1074) (arH64 s (val xs) (val ys)).natAbs)) * (val ys : Int)) := by
    have e0 := g.2
    have ea : fv s (val xs) = sg s (val xs) := rfl
    have eb : fv s2 (val t2) = sg s2 (val t2) := rfl
    unfold pab
    rw [ea, eb]
    grind
  have q := sgn_mul p0 p1 e
  unfold c3
  by_cases c : pab s xs ys s2 t2 u2 < 0
  · left; rw [if_pos c]
  · right; rw [if_neg c, if_neg (by omega)]
theorem mid64 {s s1 s2 : Bool} {xs ys t1 u1 t2 u2 : List Int} (hf : fracOk s xs ys = true) (h1 : -9218868437227405312 < arL64 s (val xs) (val ys)) (h2 : arH64 s (val xs) (val ys) < 9218868437227405312) (g1 : FV64 (arL64 s (val xs) (val ys)) s1 t1 u1) (g2 : FV64 (arH64 s (val xs) (val ys)) s2 t2 u2) {P Q : Int} {Up Uq : Nat} (hUp : Up ≠ 0) (hUq : Uq ≠ 0)
    (eP : P * ((val ys * val u1 : Nat) : Int) = (fv s (val xs) * val u1 - fv s1 (val t1) * val ys) * (Up : Int)) (eQ : Q * ((val u2 * val ys : Nat) : Int) = (fv s2 (val t2) * val ys - fv s (val xs) * val u2) * (Uq : Int)) :
    (P * (Uq : Int) - Q * (Up : Int) < 0 → nr64 s (val xs) (val ys) = arL64 s (val xs) (val ys)) ∧ (0 < P * (Uq : Int) - Q * (Up : Int) → nr64 s (val xs) (val ys) = arH64 s (val xs) (val ys)) ∧ (P * (Uq : Int) - Q * (Up : Int) = 0 → arL64 s (val xs) (val ys) ≠ arH64 s (val xs) (val ys) → Int.tmod (nr64 s (val xs) (val ys)) 2 = 0) ∧ (nr64 s (val xs) (val ys) = arL64 s (val xs) (val ys) ∨ nr64 s (val xs) (val ys) = arH64 s (val xs) (val ys)) := by
  have ar := around64 hf
  have n1 : loN64 s (val xs) (val ys) = arL64 s (val xs) (val ys) := by unfold loN64; omega
  have n2 : hiN64 s (val xs) (val ys) = arH64 s (val xs) (val ys) := by unfold hiN64; omega
  have hn : nr64 s (val xs) (val ys) = nrV (arL64 s (val xs) (val ys)) (arH64 s (val xs) (val ys)) (nE64 s (val xs) (val ys) (arL64 s (val xs) (val ys)) (arH64 s (val xs) (val ys))) := by unfold nr64; rw [n1, n2]
  have k0 := frac_pos hf
  have k1 := frac_pos g1.1
  have k2 := frac_pos g2.1
  have k3 := vB_ne (pw 4503599627370496 (-1074) (arL64 s (val xs) (val ys)).natAbs)
  have k4 := vB_ne (pw 4503599627370496 (-1074) (arH64 s (val xs) (val ys)).natAbs)
  have f1 := g1.2
  have f2 := g2.2
  unfold nE64 at hn
  generalize vA (sz 4503599627370496 (arL64 s (val xs) (val ys)).natAbs) (pw 4503599627370496 (-1074) (arL64 s (val xs) (val ys)).natAbs) = A1 at *
  generalize vB (pw 4503599627370496 (-1074) (arL64 s (val xs) (val ys)).natAbs) = B1 at *
  generalize vA (sz 4503599627370496 (arH64 s (val xs) (val ys)).natAbs) (pw 4503599627370496 (-1074) (arH64 s (val xs) (val ys)).natAbs) = A2 at *
  generalize vB (pw 4503599627370496 (-1074) (arH64 s (val xs) (val ys)).natAbs) = B2 at *
  have key := mid_sign (F := fv s (val xs)) (a1 := fv s1 (val t1)) (a2 := fv s2 (val t2)) (sg (decide (arL64 s (val xs) (val ys) < 0)) A1) (sg (decide (arH64 s (val xs) (val ys) < 0)) A2) (Nat.pos_of_ne_zero k0) (Nat.pos_of_ne_zero k1) (Nat.pos_of_ne_zero k2) (Nat.pos_of_ne_zero k3) (Nat.pos_of_ne_zero k4) (Nat.pos_of_ne_zero hUp) (Nat.pos_of_ne_zero hUq) f1 f2 (by rw [← Int.natCast_mul]; exact eP) (by rw [← Int.natCast_mul]; exact eQ)
  have ed : dE s (val xs) (val ys) (decide (arL64 s (val xs) (val ys) < 0)) A1 B1 (decide (arH64 s (val xs) (val ys) < 0)) A2 B2 = 2 * fv s (val xs) * (B1 * B2 : Int) - (sg (decide (arL64 s (val xs) (val ys) < 0)) A1 * (B2 : Int) + sg (decide (arH64 s (val xs) (val ys) < 0)) A2 * (B1 : Int)) * (val ys : Int) := by
    unfold dE
    have ea : fv s (val xs) = sg s (val xs) := rfl
    rw [ea]
    grind
  rw [← ed] at key
  generalize dE s (val xs) (val ys) (decide (arL64 s (val xs) (val ys) < 0)) A1 B1 (decide (arH64 s (val xs) (val ys) < 0)) A2 B2 = E at *
  generalize arL64 s (val xs) (val ys) = l at *
  generalize arH64 s (val xs) (val ys) = h at *
  rw [hn]
  unfold nrV
  refine ⟨fun c => ?_, fun c => ?_, fun c c2 => ?_, ?_⟩
  · rw [if_pos (Or.inl (key.1.1 c))]
  · rw [if_neg (by intro q; rcases q with q | q <;> omega)]
  · have e0 := key.2.1 c
    by_cases m : Int.tmod l 2 = 0
    · rw [if_pos (Or.inr ⟨e0, m⟩)]; exact m
    · rw [if_neg (by intro q; rcases q with q | q; · omega
                     · exact m q.2)]
      have hh : h = l + 1 := by omega
      subst hh
      have d1 : ¬ (2 : Int) ∣ l := fun d => m (Int.tmod_eq_zero_of_dvd d)
      exact Int.tmod_eq_zero_of_dvd (by omega)
  · split
    · exact Or.inl rfl
    · exact Or.inr rfl
end Go.Proofs.YtgoffjpfddmhhaaGreatDoor

/- Rounding of what is a float's value; FloatFrac where there is none. Conditions, of the program: the library's tables and its handle of errors hold what their texts lay. Nothing that was there is written. -/
namespace Go.Proofs.YtgoffjpfddmhhaaGreatDoor
open Go.RowKit
set_option linter.unusedVariables false
set_option maxRecDepth 100000

theorem dnOf {wd n : Int} {s : Bool} {tl ul : List Int} (h1 : pfOk wd s tl ul = true) (h2 : pfL wd s tl ul = n) (a b : Option Addr) (la lb ca cb : Nat) (w : World) (hA : InI w a la ca tl) (hB : InI w b lb cb ul) (hT : Tab w ∧ ET w) :
    Calls Tryz.prog 7 #[.int .i64 wd, .agg #[.bool s, .slice a la ca, .slice b lb cb]] w fun e w' => e = .returned (.tuple #[.int .i64 n, .bool true]) ∧ Below w.heap.size w w' := by
  have q := iFloatDown wd s a b la lb ca cb tl ul w hA hB hT.1 hT.2
  rw [h1, h2] at q
  exact q
theorem upOf {wd n : Int} {s : Bool} {tl ul : List Int} (h1 : pfOk wd s tl ul = true) (h2 : pfH wd s tl ul = n) (a b : Option Addr) (la lb ca cb : Nat) (w : World) (hA : InI w a la ca tl) (hB : InI w b lb cb ul) (hT : Tab w ∧ ET w) :
    Calls Tryz.prog 8 #[.int .i64 wd, .agg #[.bool s, .slice a la ca, .slice b lb cb]] w fun e w' => e = .returned (.tuple #[.int .i64 n, .bool true]) ∧ Below w.heap.size w w' := by
  have q := iFloatUp wd s a b la lb ca cb tl ul w hA hB hT.1 hT.2
  rw [h1, h2] at q
  exact q
theorem nrOf {wd n : Int} {s : Bool} {tl ul : List Int} (h1 : pfOk wd s tl ul = true) (h2 : nrF wd s tl ul = n) (a b : Option Addr) (la lb ca cb : Nat) (w : World) (hA : InI w a la ca tl) (hB : InI w b lb cb ul) (hT : Tab w ∧ ET w) :
    Calls Tryz.prog 9 #[.int .i64 wd, .agg #[.bool s, .slice a la ca, .slice b lb cb]] w fun e w' => e = .returned (.tuple #[.int .i64 n, .bool true]) ∧ Below w.heap.size w w' := by
  have q := iFloatNear wd s a b la lb ca cb tl ul w hA hB hT.1 hT.2
  rw [h1, h2] at q
  exact q
theorem noFF (wd n : Int) (h : ¬ (wd = 32 ∧ -2139095040 < n ∧ n < 2139095040)) (h' : ¬ (wd = 64 ∧ -9218868437227405312 < n ∧ n < 9218868437227405312)) :
    (∀ w, Calls Tryz.prog 16 #[.int .i64 wd, .int .i64 n] w fun e w' => (∃ av cv av' cv', e = .returned (.tuple #[.agg #[.bool false, .slice av 0 cv, .slice av' 0 cv'], .bool false])) ∧ Below w.heap.size w w') ∧
    (∀ w, Tab w ∧ ET w → Calls Tryz.prog 12 #[.int .i64 wd, .int .i64 n] w fun e w' => (∃ av cv av' cv', e = .returned (.tuple #[.agg #[.bool false, .slice av 0 cv, .slice av' 0 cv'], .bool false])) ∧ Below w.heap.size w w') := by
  have fin : ∀ {w w' : World} {e : Ending}, FRes w' w.heap.size e false false 0 0 ∧ Below w.heap.size w w' → (∃ av cv av' cv', e = .returned (.tuple #[.agg #[.bool false, .slice av 0 cv, .slice av' 0 cv'], .bool false])) ∧ Below w.heap.size w w' := fun g => ⟨by obtain ⟨⟨av, cv, av', cv', he, -⟩, -⟩ := g; exact ⟨av, cv, av', cv', he⟩, g.2⟩
  by_cases c1 : wd = 32
  · subst c1
    have h2 : ¬ (-2139095040 < n ∧ n < 2139095040) := fun g => h ⟨rfl, g⟩
    exact ⟨fun w => (sFFno 32 n false w (hd (fun w => sPart_32_not n h2 w))).mono (fun _ _ g => fin g), fun w _ => (iFFno32 n h2 false w).mono (fun _ _ g => fin g)⟩
  by_cases c2 : wd = 64
  · subst c2
    have h2 : ¬ (-9218868437227405312 < n ∧ n < 9218868437227405312) := fun g => h' ⟨rfl, g⟩
    exact ⟨fun w => (sFFno 64 n false w (hd (fun w => sPart_64_not n h2 w))).mono (fun _ _ g => fin g), fun w _ => (iFFno64 n h2 false w).mono (fun _ _ g => fin g)⟩
  exact ⟨fun w => (sFFno wd n false w (hd (fun w => sPart_no wd n c1 c2 w))).mono (fun _ _ g => fin g), fun w _ => (iFFno wd n c1 c2 false w).mono (fun _ _ g => fin g)⟩
end Go.Proofs.YtgoffjpfddmhhaaGreatDoor
