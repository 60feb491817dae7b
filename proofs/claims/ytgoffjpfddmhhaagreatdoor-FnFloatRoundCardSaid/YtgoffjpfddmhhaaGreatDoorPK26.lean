/- The width of the values of either kind of floats, told by their size, and a float as the language has it: its bits are BitBits'; nothing that was there is written. No condition. -/
import Derived.Test.YtgoffjpfddmhhaaGreatDoorPK22
import Derived.Test.YtgoffjpfddmhhaaGreatDoorPK01
import Derived.Test.YtgoffjpfddmhhaaGreatDoorPK17
import Derived.Test.YtgoffjpfddmhhaaGreatDoorPK25
import Derived.Test.YtgoffjpfddmhhaaGreatDoorPK18
import Derived.Test.YtgoffjpfddmhhaaGreatDoorPK10
namespace Go.Proofs.YtgoffjpfddmhhaaGreatDoor
open Go.RowKit
set_option linter.unusedVariables false
set_option maxRecDepth 100000

theorem cvI32 (w : World) : (convert 3 208 (.int .i64 16777217)).run Tryz.prog w = .ok (.float .f32 1266679808) w := by kernel_rfl
theorem cv3264 (w : World) : (convert 208 214 (.float .f32 1266679808)).run Tryz.prog w = .ok (.float .f64 4715268809856909312) w := by kernel_rfl
theorem cvI64 (w : World) : (convert 3 214 (.int .i64 16777217)).run Tryz.prog w = .ok (.float .f64 4715268810125344768) w := by kernel_rfl
theorem iWidth32 (v : Value) (w : World) :
    Calls Tryz.prog 153 #[v] w fun e w' => e = .returned (.int .i64 32) ∧ w' = w := by
  have c1 := cvI32
  have c2 := cv3264
  go_enter Tryz.func153, Tryz.ntmps153
  go_wp2
  go_ret
  exact ⟨rfl, rfl⟩
theorem iWidth64 (v : Value) (w : World) :
    Calls Tryz.prog 181 #[v] w fun e w' => e = .returned (.int .i64 64) ∧ w' = w := by
  have c1 := cvI64
  go_enter Tryz.func181, Tryz.ntmps181
  go_wp2
  go_ret
  exact ⟨rfl, rfl⟩
theorem frombits32 (n : Int) (w : World) : (callFunc 169 #[.int .u32 n]).run Tryz.prog w = .ok (.value (.float .f32 n.toNat)) w := by
  rw [run_callFunc_extern (e := Extern.MathFloatBits.float32frombits) Tryz.func169 (by kernel_rfl) (by kernel_rfl) (by kernel_rfl) (by kernel_rfl)]; rfl
theorem frombits64 (n : Int) (w : World) : (callFunc 170 #[.int .u64 n]).run Tryz.prog w = .ok (.value (.float .f64 n.toNat)) w := by
  rw [run_callFunc_extern (e := Extern.MathFloatBits.float64frombits) Tryz.func170 (by kernel_rfl) (by kernel_rfl) (by kernel_rfl) (by kernel_rfl)]; rfl
theorem bits64 (n : Nat) (w : World) : (callFunc 160 #[.float .f64 n]).run Tryz.prog w = .ok (.value (.int .u64 n)) w := by
  rw [run_callFunc_extern (e := Extern.MathFloatBits.float64bits) Tryz.func160 (by kernel_rfl) (by kernel_rfl) (by kernel_rfl) (by kernel_rfl)]; rfl
set_option maxHeartbeats 800000 in
theorem iFloat32 (v : Value) (n : Int) (h1 : -2139095040 ≤ n) (h2 : n ≤ 2139095040) (w : World) :
    Calls Tryz.prog 161 #[v, .int .i64 n] w fun e w' => e = .returned (.float .f32 (bitsI 2147483648 n).toNat) ∧ Below w.heap.size w w' := by
  have c1 := frombits32
  have B := hd (fun w => iBitBits_32 n h1 h2 w)
  have hb0 : 0 ≤ bitsI 2147483648 n := by unfold bitsI; split <;> omega
  have hb1 : bitsI 2147483648 n < 4294967296 := by unfold bitsI; split <;> omega
  have hwr : IntKind.wrap .u32 (bitsI 2147483648 n) = bitsI 2147483648 n := by rw [IntKind.wrap_u32]; omega
  generalize bitsI 2147483648 n = b at *
  clear h1 h2
  go_enter Tryz.func161, Tryz.ntmps161
  go_wp2_with fail
  refine (iWidth32 _ _).mono ?_
  rintro e w1 ⟨rfl, rfl⟩
  go_wp2_with fail
  refine (B.out _).mono ?_
  rintro e w2 ⟨rfl, hb2⟩
  go_wp2_with fail
  refine (iWidth32 _ _).mono ?_
  rintro e w3 ⟨rfl, rfl⟩
  go_wp2
  go_ret
  exact ⟨rfl, hb2⟩
set_option maxHeartbeats 800000 in
theorem iFloat64 (v : Value) (n : Int) (h1 : -9218868437227405312 ≤ n) (h2 : n ≤ 9218868437227405312) (w : World) :
    Calls Tryz.prog 178 #[v, .int .i64 n] w fun e w' => e = .returned (.float .f64 (bitsI 9223372036854775808 n).toNat) ∧ Below w.heap.size w w' := by
  have c1 := frombits64
  have B := hd (fun w => iBitBits_64 n h1 h2 w)
  generalize bitsI 9223372036854775808 n = b at *
  clear h1 h2
  go_enter Tryz.func178, Tryz.ntmps178
  go_wp2_with fail
  refine (iWidth64 _ _).mono ?_
  rintro e w1 ⟨rfl, rfl⟩
  go_wp2_with fail
  refine (B.out _).mono ?_
  rintro e w2 ⟨rfl, hb2⟩
  go_wp2_with fail
  refine (iWidth64 _ _).mono ?_
  rintro e w3 ⟨rfl, rfl⟩
  go_wp2
  go_ret
  exact ⟨rfl, hb2⟩
end Go.Proofs.YtgoffjpfddmhhaaGreatDoor

/- The value of a float as a fraction: a size times a power of two; what is left of it in lowest terms is the same however much of the size is put into the power; the wide float of a narrow one has the same value. Mathematics alone. -/
namespace Go.Proofs.YtgoffjpfddmhhaaGreatDoor
open Go.RowKit
set_option linter.unusedVariables false
set_option maxRecDepth 100000

/-- above and below the line of s times 2 to the power of p -/
def vA (s : Nat) (p : Int) : Nat := if 0 ≤ p then 2 ^ p.toNat * s else s
def vB (p : Int) : Nat := if 0 ≤ p then 1 else 2 ^ (-p).toNat
theorem vB_ne (p : Int) : vB p ≠ 0 := by
  unfold vB
  split
  · omega
  · exact Nat.ne_of_gt (Nat.pow_pos (by omega))
theorem low_scale (A B k : Nat) (hk : 0 < k) : lowT (A * k) (B * k) = lowT A B ∧ lowU (A * k) (B * k) = lowU A B := by
  unfold lowT lowU
  rw [Nat.gcd_mul_right, Nat.mul_div_mul_right _ _ hk, Nat.mul_div_mul_right _ _ hk]
  exact ⟨rfl, rfl⟩
/-- the same in lowest terms -/
def SameF (A B A' B' : Nat) : Prop := lowT A B = lowT A' B' ∧ lowU A B = lowU A' B' ∧ (A = 0 ↔ A' = 0) ∧ (B = 0 ↔ B' = 0)
theorem SameF.refl (A B : Nat) : SameF A B A B := ⟨rfl, rfl, Iff.rfl, Iff.rfl⟩
theorem SameF.symm {A B A' B' : Nat} (h : SameF A B A' B') : SameF A' B' A B := ⟨h.1.symm, h.2.1.symm, h.2.2.1.symm, h.2.2.2.symm⟩
theorem SameF.trans {A B A' B' A'' B'' : Nat} (h : SameF A B A' B') (g : SameF A' B' A'' B'') : SameF A B A'' B'' := ⟨h.1.trans g.1, h.2.1.trans g.2.1, h.2.2.1.trans g.2.2.1, h.2.2.2.trans g.2.2.2⟩
theorem SameF.scale (A B k : Nat) (hk : 0 < k) : SameF (A * k) (B * k) A B := by
  refine ⟨(low_scale A B k hk).1, (low_scale A B k hk).2, ?_, ?_⟩
  · rw [Nat.mul_eq_zero]; omega
  · rw [Nat.mul_eq_zero]; omega
theorem SameF.low {A B A' B' : Nat} (h : SameF A B A' B') : lowB A B = lowB A' B' := by
  unfold lowB
  rw [h.1, h.2.1]
  have : decide (B ≠ 0) = decide (B' ≠ 0) := by
    rw [decide_eq_decide]
    exact not_congr h.2.2.2
  rw [this]
theorem SameF.res {A B A' B' : Nat} (h : SameF A B A' B') {w : World} {base : Nat} {e : Ending} {s : Bool} (hr : FRes w base e (lowB A B) s A B) : FRes w base e (lowB A' B') s A' B' := by
  rw [h.low] at hr
  unfold FRes at hr ⊢
  have e1 : fT (lowB A' B') A B = fT (lowB A' B') A' B' := by unfold fT; rw [h.1]
  have e2 : fU (lowB A' B') A B = fU (lowB A' B') A' B' := by unfold fU; rw [h.2.1]
  have e3 : fS (lowB A' B') s A = fS (lowB A' B') s A' := by
    unfold fS
    have : decide (A ≠ 0) = decide (A' ≠ 0) := by rw [decide_eq_decide]; exact not_congr h.2.2.1
    rw [this]
  rw [← e1, ← e2, ← e3]
  exact hr
theorem pow_splitF (a b : Nat) : 2 ^ (a + b) = 2 ^ a * 2 ^ b := Nat.pow_add 2 a b
theorem same_shift (s : Nat) (p : Int) (k : Nat) : SameF (vA (s * 2 ^ k) p) (vB p) (vA s (p + k)) (vB (p + k)) := by
  unfold vA vB
  by_cases c1 : 0 ≤ p
  · have c2 : 0 ≤ p + k := by omega
    rw [if_pos c1, if_pos c1, if_pos c2, if_pos c2]
    have : (p + k).toNat = p.toNat + k := by omega
    rw [this, pow_splitF]
    have e : 2 ^ p.toNat * (s * 2 ^ k) = 2 ^ p.toNat * 2 ^ k * s := by rw [Nat.mul_comm s, Nat.mul_assoc]
    rw [e]
    exact SameF.refl _ _
  rw [if_neg c1, if_neg c1]
  by_cases c2 : 0 ≤ p + k
  · rw [if_pos c2, if_pos c2]
    have hk : k = (p + k).toNat + (-p).toNat := by omega
    have e : s * 2 ^ k = 2 ^ (p + k).toNat * s * 2 ^ (-p).toNat := by
      rw [Nat.mul_comm s, Nat.mul_assoc, Nat.mul_comm s, ← Nat.mul_assoc, ← pow_splitF, ← hk]
    have g := SameF.scale (2 ^ (p + k).toNat * s) 1 (2 ^ (-p).toNat) (Nat.pow_pos (by omega))
    rw [Nat.one_mul] at g
    rw [e]
    exact g
  · rw [if_neg c2, if_neg c2]
    have hk : (-p).toNat = (-(p + k)).toNat + k := by omega
    rw [hk, pow_splitF]
    exact SameF.scale s (2 ^ (-(p + k)).toNat) (2 ^ k) (Nat.pow_pos (by omega))
theorem same_zero (p q : Int) : SameF (vA 0 p) (vB p) (vA 0 q) (vB q) := by
  have z : ∀ p, vA 0 p = 0 := fun p => by unfold vA; split <;> simp
  rw [z, z]
  have hp := vB_ne p
  have hq := vB_ne q
  refine ⟨by rw [lowT_zero, lowT_zero], by rw [lowU_zero hp, lowU_zero hq], Iff.rfl, ?_⟩
  constructor <;> intro h <;> omega

/-- the size and the power of a float that is m steps from 0 -/
def sz (U m : Nat) : Nat := if m < U then m else U + m % U
def pw (U : Nat) (L : Int) (m : Nat) : Int := if m < U then L else L + ((m / U : Nat) - 1)
theorem pSize_nat (U m : Nat) : pSize U m = (sz U m : Nat) := by
  unfold pSize sz
  by_cases c : m < U
  · rw [if_pos (by omega), if_pos c]
  · rw [if_neg (by omega), if_neg c]; omega
theorem pPow_nat (U : Nat) (L : Int) (m : Nat) : pPow U L m = pw U L m := by
  unfold pPow pw
  by_cases c : m < U
  · rw [if_pos (by omega), if_pos c]
  · rw [if_neg (by omega), if_neg c]; omega
theorem wide_part {m : Nat} (h : m < 2139095040) (h0 : m ≠ 0) : ∃ k : Nat, sz 4503599627370496 (wid m) = sz 8388608 m * 2 ^ k ∧ pw 4503599627370496 (-1074) (wid m) + k = pw 8388608 (-149) m := by
  by_cases c : m < 8388608
  · rw [wid_small h0 c]
    have l1 : m.log2 ≤ 22 := by
      have := (Nat.log2_lt h0).2 (show m < 2 ^ 23 by omega)
      omega
    have b1 : 2 ^ m.log2 ≤ m := Nat.log2_self_le h0
    have b2 : m < 2 ^ (m.log2 + 1) := Nat.lt_log2_self
    have g1 : 4503599627370496 ≤ m * 2 ^ (52 - m.log2) := by
      have : 2 ^ m.log2 * 2 ^ (52 - m.log2) = 4503599627370496 := by rw [← Nat.pow_add, show m.log2 + (52 - m.log2) = 52 by omega]
      rw [← this]
      exact Nat.mul_le_mul_right _ b1
    have g2 : m * 2 ^ (52 - m.log2) < 9007199254740992 := by
      have : 2 ^ (m.log2 + 1) * 2 ^ (52 - m.log2) = 9007199254740992 := by rw [← Nat.pow_add, show m.log2 + 1 + (52 - m.log2) = 53 by omega]
      rw [← this]
      exact Nat.mul_lt_mul_of_pos_right b2 (Nat.pow_pos (by omega))
    refine ⟨52 - m.log2, ?_, ?_⟩
    · unfold sz
      rw [if_pos c]
      generalize m * 2 ^ (52 - m.log2) = t at *
      rw [if_neg (by omega)]
      omega
    · unfold pw
      rw [if_pos c]
      generalize m * 2 ^ (52 - m.log2) = t at *
      rw [if_neg (by omega)]
      have : ((m.log2 + 873) * 4503599627370496 + t) / 4503599627370496 = m.log2 + 874 := by omega
      rw [this]
      omega
  · rw [wid_common (by omega) h]
    refine ⟨29, ?_, ?_⟩
    · unfold sz
      rw [if_neg c, if_neg (by omega)]
      have : 2 ^ 29 = 536870912 := rfl
      rw [this]
      omega
    · unfold pw
      rw [if_neg c, if_neg (by omega)]
      have : (896 * 4503599627370496 + m * 536870912) / 4503599627370496 = 896 + m / 8388608 := by omega
      rw [this]
      omega
/-- what the program makes of the wide float is the narrow one's value -/
theorem same_wide {m : Nat} (h : m < 2139095040) {o e : Nat} (he : sz 4503599627370496 (wid m) = o * 2 ^ e) :
    SameF (vA o (pw 4503599627370496 (-1074) (wid m) + e)) (vB (pw 4503599627370496 (-1074) (wid m) + e)) (vA (sz 8388608 m) (pw 8388608 (-149) m)) (vB (pw 8388608 (-149) m)) := by
  by_cases h0 : m = 0
  · subst h0
    rw [wid_zero] at *
    have z1 : sz 4503599627370496 0 = 0 := rfl
    have z2 : sz 8388608 0 = 0 := rfl
    rw [z1] at he
    have : o = 0 := by
      rcases Nat.mul_eq_zero.1 he.symm with g | g
      · exact g
      · exact absurd g (Nat.ne_of_gt (Nat.pow_pos (by omega)))
    rw [this, z2]
    exact same_zero _ _
  obtain ⟨k, h1, h2⟩ := wide_part h h0
  rw [← h2]
  refine ((same_shift o _ e).symm.trans ?_).trans (same_shift (sz 8388608 m) _ k)
  rw [← he, h1]
  exact SameF.refl _ _
theorem same_own {m : Nat} {o e : Nat} (he : sz 4503599627370496 m = o * 2 ^ e) :
    SameF (vA o (pw 4503599627370496 (-1074) m + e)) (vB (pw 4503599627370496 (-1074) m + e)) (vA (sz 4503599627370496 m) (pw 4503599627370496 (-1074) m)) (vB (pw 4503599627370496 (-1074) m)) := by
  rw [he]
  exact (same_shift o _ e).symm
theorem pw_bd {m : Nat} (h : m < 9218868437227405312) : -1074 ≤ pw 4503599627370496 (-1074) m ∧ pw 4503599627370496 (-1074) m ≤ 971 := by
  unfold pw
  split <;> omega
theorem sz_bd {m : Nat} : sz 4503599627370496 m < 9007199254740992 := by
  unfold sz
  split <;> omega
theorem pw_bd32 {m : Nat} (h : m < 2139095040) : -149 ≤ pw 8388608 (-149) m ∧ pw 8388608 (-149) m ≤ 104 := by
  unfold pw
  split <;> omega
theorem sz_bd32 {m : Nat} : sz 8388608 m < 16777216 := by
  unfold sz
  split <;> omega
end Go.Proofs.YtgoffjpfddmhhaaGreatDoor

/- The value of a finite float of either width as a fraction times a power of two, by the program: the size of the wide float without the twos in it. Condition: the library's table holds what its text lays. -/
namespace Go.Proofs.YtgoffjpfddmhhaaGreatDoor
open Go.RowKit
set_option linter.unusedVariables false
set_option maxRecDepth 100000

/-- a block of four values -/
structure C4 (w : World) (b : Nat) (x y z u : Value) : Prop where
  cells : w.cell? ⟨b, 0, none⟩ = some x ∧ w.cell? ⟨b, 1, none⟩ = some y ∧ w.cell? ⟨b, 2, none⟩ = some z ∧ w.cell? ⟨b, 3, none⟩ = some u
  froz : w.frozen? ⟨b, 0, none⟩ = false ∧ w.frozen? ⟨b, 1, none⟩ = false ∧ w.frozen? ⟨b, 2, none⟩ = false ∧ w.frozen? ⟨b, 3, none⟩ = false
  lt : b < w.heap.size
theorem C4.old {w w1 : World} {b : Nat} {x y z u : Value} (h : C4 w b x y z u) (hb : Below w.heap.size w w1) : C4 w1 b x y z u := by
  obtain ⟨⟨h1, h2, h3, h4⟩, ⟨g1, g2, g3, g4⟩, h5⟩ := h
  exact ⟨⟨(hb.cell (p := ⟨b, 0, none⟩) h5).trans h1, (hb.cell (p := ⟨b, 1, none⟩) h5).trans h2, (hb.cell (p := ⟨b, 2, none⟩) h5).trans h3, (hb.cell (p := ⟨b, 3, none⟩) h5).trans h4⟩, ⟨(hb.frozen (p := ⟨b, 0, none⟩) h5).trans g1, (hb.frozen (p := ⟨b, 1, none⟩) h5).trans g2, (hb.frozen (p := ⟨b, 2, none⟩) h5).trans g3, (hb.frozen (p := ⟨b, 3, none⟩) h5).trans g4⟩, Nat.lt_of_lt_of_le h5 hb.size⟩
theorem C4.drew {w : World} {b : Nat} {x y z u : Value} (h : C4 w b x y z u) : C4 w.drew b x y z u := ⟨h.cells, h.froz, h.lt⟩
theorem C4.new (w : World) (x y z u : Value) (t : TypeId) : C4 (w.alloc (.cells #[x, y, z, u] t)) w.heap.size x y z u := by
  refine ⟨⟨?_, ?_, ?_, ?_⟩, ⟨?_, ?_, ?_, ?_⟩, by simp⟩ <;> simp [go_sem]
theorem C4.far {w : World} {b c i : Nat} {x y z u v : Value} (h : C4 w b x y z u) (hn : b ≠ c) : C4 (w.setCell ⟨c, i, none⟩ v) b x y z u := by
  obtain ⟨⟨a0, a1, a2, a3⟩, ⟨f0, f1, f2, f3⟩, h1⟩ := h
  have o : ∀ (j : Nat), (w.setCell ⟨c, i, none⟩ v).cell? ⟨b, j, none⟩ = w.cell? ⟨b, j, none⟩ := fun j => World.cell?_setCell_other _ _ _ _ (by intro h; injection h with h2 _; omega)
  exact ⟨⟨(o 0).trans a0, (o 1).trans a1, (o 2).trans a2, (o 3).trans a3⟩, ⟨by simpa using f0, by simpa using f1, by simpa using f2, by simpa using f3⟩, by simpa [World.setCell] using h1⟩
theorem C4.stored {w : World} {b : Nat} {x y z u : Value} (h : C4 w b x y z u) (v0 v1 v2 v3 : Value) : C4 ((((w.setCell ⟨b, 0, none⟩ v0).setCell ⟨b, 1, none⟩ v1).setCell ⟨b, 2, none⟩ v2).setCell ⟨b, 3, none⟩ v3) b v0 v1 v2 v3 := by
  obtain ⟨⟨a0, a1, a2, a3⟩, ⟨f0, f1, f2, f3⟩, h1⟩ := h
  refine ⟨⟨?_, ?_, ?_, ?_⟩, ⟨by simpa using f0, by simpa using f1, by simpa using f2, by simpa using f3⟩, by simpa [World.setCell] using h1⟩
  · rw [setO _ _ _ _ _ (by omega), setO _ _ _ _ _ (by omega), setO _ _ _ _ _ (by omega)]; exact World.cell?_setCell_same _ _ _ a0
  · rw [setO _ _ _ _ _ (by omega), setO _ _ _ _ _ (by omega)]; exact World.cell?_setCell_same _ _ _ ((setO _ _ _ _ _ (by omega)).trans a1)
  · rw [setO _ _ _ _ _ (by omega)]; exact World.cell?_setCell_same _ _ _ ((setO _ _ _ _ _ (by omega)).trans ((setO _ _ _ _ _ (by omega)).trans a2))
  · exact World.cell?_setCell_same _ _ _ ((setO _ _ _ _ _ (by omega)).trans ((setO _ _ _ _ _ (by omega)).trans ((setO _ _ _ _ _ (by omega)).trans a3)))
theorem three_later {w w1 : World} {p : Nat} {x y z : Value} (h : w.cell? ⟨p, 0, none⟩ = some x ∧ w.cell? ⟨p, 1, none⟩ = some y ∧ w.cell? ⟨p, 2, none⟩ = some z) (hb : Below w.heap.size w w1) :
    w1.cell? ⟨p, 0, none⟩ = some x ∧ w1.cell? ⟨p, 1, none⟩ = some y ∧ w1.cell? ⟨p, 2, none⟩ = some z :=
  ⟨cell_later hb h.1, cell_later hb h.2.1, cell_later hb h.2.2⟩

theorem tz_zero (w : World) : Calls Tryz.prog 123 #[.int .u64 0] w fun e w' => e = .returned (.int .i64 64) ∧ w' = w := by
  go_enter Tryz.func123, Tryz.ntmps123
  go_wp2
  go_ret
  exact ⟨rfl, rfl⟩
/-- the twos of a size, and what is left of it -/
theorem twos_size (s : Nat) (h : s < 9007199254740992) : ∃ o ee : Nat, s = o * 2 ^ ee ∧ ee ≤ 64 ∧ s / 2 ^ ee = o ∧ o < 18446744073709551616 ∧ ∀ w, Tab w → Calls Tryz.prog 123 #[.int .u64 (s : Int)] w fun e w' => e = .returned (.int .i64 (ee : Int)) ∧ w' = w := by
  by_cases h0 : s = 0
  · subst h0
    exact ⟨0, 64, by simp, by omega, by simp, by omega, fun w _ => tz_zero w⟩
  · obtain ⟨o, ho, e⟩ := twosOf_ex h0
    have hle : o ≤ s := by rw [e]; exact Nat.le_mul_of_pos_right _ (Nat.pow_pos (by omega))
    have hz : twosOf s ≤ 64 := by
      apply Nat.le_of_not_lt
      intro hlt
      have h1 : 2 ^ 64 ≤ 2 ^ twosOf s := Nat.pow_le_pow_right (by omega) (by omega)
      have h2 : 2 ^ twosOf s ≤ s := by
        have : 2 ^ twosOf s ≤ o * 2 ^ twosOf s := Nat.le_mul_of_pos_left _ (by omega)
        omega
      have : (2 : Nat) ^ 64 = 18446744073709551616 := by decide
      omega
    refine ⟨o, twosOf s, e, hz, ?_, by omega, fun w hT => ?_⟩
    · have h1 : o * 2 ^ twosOf s / 2 ^ twosOf s = o := Nat.mul_div_cancel _ (Nat.pow_pos (by omega))
      rw [← e] at h1
      exact h1
    · have C := ntz_any o (twosOf s) w ho (by rw [← e]; have : (2 : Nat) ^ 64 = 18446744073709551616 := by decide
                                              omega) hT
      rw [← e] at C
      exact C
theorem div_pow {s ee o : Nat} (he : s / 2 ^ ee = o) : (s : Int) / 2 ^ ee = (o : Int) := by
  rw [← he]
  rw [Int.natCast_ediv, Int.natCast_pow]
  rfl
theorem shr_u64 (s ee o : Nat) (he : s / 2 ^ ee = o) (hz : ee ≤ 64) : Op.shift .shr .u64 (s : Int) .i64 (ee : Int) = pure (.int .u64 (o : Int)) := by
  have h := shift_shr_u64 (yk := .i64) (x := (s : Int)) (y := (ee : Int)) (by omega) (by omega)
  rw [Int.toNat_natCast, div_pow he] at h
  exact h
theorem resVal32 {W : World} {b : Nat} {v0 v1 v2 v3 : Value} {tmps : Array Value} (h : C4 W b v0 v1 v2 v3) (ht : tmps[4]? = some (.pointer (some ⟨b, 0, none⟩))) : (results Tryz.f152 tmps).run Tryz.prog W = .ok (.agg #[v0, v1, v2, v3]) W := by
  obtain ⟨⟨a0, a1, a2, a3⟩, -, -⟩ := h
  simp [results, Tryz.results152, go_sem, a0, a1, a2, a3, ht]
set_option maxHeartbeats 4000000 in
theorem value_core32 (v : Value) (n N p : Int) (b X s o ee : Nat) (g q : Bool) (w : World) (hT : Tab w)
    (FL : Hid (∀ w, Calls Tryz.prog 161 #[v, .int .i64 n] w fun e w' => e = .returned (.float .f32 b) ∧ Below w.heap.size w w'))
    (cv : ∀ w, (convert 208 214 (.float .f32 b)).run Tryz.prog w = .ok (.float .f64 X) w)
    (BO : Hid (∀ w, Calls Tryz.prog 159 #[.int .i64 64, .int .u64 (X : Int)] w fun e w' => e = .returned (.tuple #[.int .i64 N, .bool q]) ∧ Below w.heap.size w w'))
    (PT : Hid (∀ w, Calls Tryz.prog 38 #[.int .i64 64, .int .i64 N] w fun e w' => e = .returned (.tuple #[.agg #[.bool g, .int .u64 (s : Int), .int .i64 p], .bool true]) ∧ Below w.heap.size w w'))
    (TZ : Hid (∀ w, Tab w → Calls Tryz.prog 123 #[.int .u64 (s : Int)] w fun e w' => e = .returned (.int .i64 (ee : Int)) ∧ w' = w))
    (hsh : Op.shift .shr .u64 (s : Int) .i64 (ee : Int) = pure (.int .u64 (o : Int))) (hdv : (s : Int) / 2 ^ ee = (o : Int)) (ho : o < 18446744073709551616) (he : (ee : Int) ≤ 64) (hp : -2000 ≤ p ∧ p ≤ 2000) :
    Calls Tryz.prog 152 #[v, .int .i64 n] w fun e w' => (∃ av cv bv dv, e = .returned (.agg #[.bool g, .slice av (natL o).length cv, .slice bv (natL 1).length dv, .int .i64 (p + ee)]) ∧ OI w' w.heap.size av cv (natL o) ∧ OI w' w.heap.size bv dv (natL 1)) ∧ Below w.heap.size w w' := by
  have c64 := bits64 X
  have NO := hd (iNatOf o ho)
  have WH := hd (fun a l k w => iWhole g a l k w)
  have e0 : Below w.heap.size w (w.alloc (.cells #[.bool false, .slice none 0 0, .slice none 0 0, .int .i64 0] 86)) := (by repeat (first | exact Below.refl _ _ | refine Below.drew ?_ | refine old_alloc ?_ _ | refine old_trans ?_ (by assumption)))
  have K := C4.new w (.bool false) (.slice none 0 0) (.slice none 0 0) (.int .i64 0) 86
  have hs0 := K.lt
  generalize natL 1 = ol at *
  generalize natL o = tl at *
  clear ho
  go_enter Tryz.func152, Tryz.ntmps152
  go_wp2_with fail
  refine (FL.out _).mono ?_
  rintro e w1 ⟨rfl, hb1⟩
  replace K := K.old hb1
  have hB := old_trans e0 hb1
  clear hb1 FL
  go_wp2_with fail
  refine (BO.out _).mono ?_
  rintro e w2 ⟨rfl, hb2⟩
  replace K := K.old hb2
  replace hB := old_trans hB hb2
  clear hb2 BO
  go_wp2_with fail
  refine (PT.out _).mono ?_
  rintro e w3 ⟨rfl, hb3⟩
  replace K := K.old hb3
  replace hB := old_trans hB hb3
  clear hb3 PT
  have hlt := K.lt
  have ha : Below w3.heap.size w3 (w3.alloc (.cells #[.bool g, .int .u64 (s : Int), .int .i64 p] 73)) := old_alloc (Below.refl _ _) _
  have hB4 := old_trans hB ha
  have K4 := K.old ha
  have P3 := Cel3.new w3 (.bool g) (.int .u64 (s : Int)) (.int .i64 p) 73
  go_wp2_with fail
  refine (TZ.out _ (hT.old hB4)).mono ?_
  rintro e w4 ⟨rfl, rfl⟩
  clear TZ hT ha hB K
  have hS : (w3.alloc (.cells #[.bool g, .int .u64 (s : Int), .int .i64 p] 73)).cell? ⟨w3.heap.size, 0, none⟩ = some (.bool g) ∧ (w3.alloc (.cells #[.bool g, .int .u64 (s : Int), .int .i64 p] 73)).cell? ⟨w3.heap.size, 1, none⟩ = some (.int .u64 (s : Int)) ∧ (w3.alloc (.cells #[.bool g, .int .u64 (s : Int), .int .i64 p] 73)).cell? ⟨w3.heap.size, 2, none⟩ = some (.int .i64 p) := P3.2.1
  generalize w3.alloc (.cells #[.bool g, .int .u64 (s : Int), .int .i64 p] 73) = W at *
  generalize w3.heap.size = PB at *
  have CN := hd (fun w' (hS : w'.cell? ⟨PB, 0, none⟩ = some (.bool g) ∧ w'.cell? ⟨PB, 1, none⟩ = some (.int .u64 (s : Int)) ∧ w'.cell? ⟨PB, 2, none⟩ = some (.int .i64 p)) => (NO.out w').mono (fun e w'' (k : _ ∧ _) => (⟨k, three_later hS k.2⟩ : (_ ∧ _) ∧ (w''.cell? ⟨PB, 0, none⟩ = some (.bool g) ∧ w''.cell? ⟨PB, 1, none⟩ = some (.int .u64 (s : Int)) ∧ w''.cell? ⟨PB, 2, none⟩ = some (.int .i64 p)))))
  have CW := hd (fun a l k w' (hS : w'.cell? ⟨PB, 0, none⟩ = some (.bool g) ∧ w'.cell? ⟨PB, 1, none⟩ = some (.int .u64 (s : Int)) ∧ w'.cell? ⟨PB, 2, none⟩ = some (.int .i64 p)) => (WH.out a l k w').mono (fun e w'' (k : _ ∧ _) => (⟨k, three_later hS k.2⟩ : (_ ∧ _) ∧ (w''.cell? ⟨PB, 0, none⟩ = some (.bool g) ∧ w''.cell? ⟨PB, 1, none⟩ = some (.int .u64 (s : Int)) ∧ w''.cell? ⟨PB, 2, none⟩ = some (.int .i64 p)))))
  clear NO WH P3
  obtain ⟨h0, h1, h2⟩ := id hS
  have z1 : w.heap.size ≠ PB := by omega
  have z2 := z1.symm
  have hwr : IntKind.i64.wrap (p + (ee : Int)) = p + ee := by simp [IntKind.wrap, IntKind.bits, IntKind.signed]; omega
  go_wp2_with fail
  go_region_held3 (fun w' => w'.cell? ⟨PB, 0, none⟩ = some (.bool g) ∧ w'.cell? ⟨PB, 1, none⟩ = some (.int .u64 (s : Int)) ∧ w'.cell? ⟨PB, 2, none⟩ = some (.int .i64 p)) (go_keep) (first | (go_at_call 163; refine (CN.out _ (by assumption)).mono ?_; rintro e wx ⟨⟨⟨av, cvv, rfl, A⟩, hbx⟩, hcx⟩; have hBx := (by first | exact old_trans hB4 hbx | exact old_trans (Below.drew hB4) hbx : Below w.heap.size w wx); have Kx := (by first | exact K4.old hbx | exact K4.drew.old hbx : C4 wx _ _ _ _ _)) | (go_at_call 162; refine (CW.out _ _ _ _ (by assumption)).mono ?_; rintro e wy ⟨⟨⟨bv, dv, rfl, B⟩, hby⟩, hcy⟩; have hBy := (by first | exact old_trans hBx hby | exact old_trans (Below.drew hBx) hby : Below w.heap.size w wy); have Ky := (by first | exact Kx.old hby | exact Kx.drew.old hby : C4 wy _ _ _ _ _); have A2 := (by first | exact A.later hby | exact OI.later (w := World.drew _) A hby : OI wy _ _ _ _); obtain ⟨⟨y0, y1, y2, y3⟩, ⟨f0, f1, f2, f3⟩, yz⟩ := id Ky))
  all_goals
    go_wp2
    have q1 : w.heap.size < W.heap.size := K4.lt
    have q3 : w.heap.size < wx.heap.size := Kx.lt
    exact bodyPost_ret (resVal32 (by first | with_reducible exact Ky.stored _ _ _ _ | with_reducible exact (Ky.stored _ _ _ _).drew | exact Ky.stored _ _ _ _ | exact (Ky.stored _ _ _ _).drew) rfl) rfl ⟨⟨_, _, _, _, rfl, OI.mono (by exact oi_setFar (oi_setFar (oi_setFar (oi_setFar A2 (by exact q1)) (by exact q1)) (by exact q1)) (by exact q1)) (by exact Nat.le_of_lt q1), OI.mono (by exact oi_setFar (oi_setFar (oi_setFar (oi_setFar B (by exact q3)) (by exact q3)) (by exact q3)) (by exact q3)) (by exact Nat.le_of_lt q3)⟩, (by exact below_set (below_set (below_set (below_set hBy (Nat.le_refl _) _) (Nat.le_refl _) _) (Nat.le_refl _) _) (Nat.le_refl _) _)⟩
theorem resVal64 {W : World} {b : Nat} {v0 v1 v2 v3 : Value} {tmps : Array Value} (h : C4 W b v0 v1 v2 v3) (ht : tmps[4]? = some (.pointer (some ⟨b, 0, none⟩))) : (results Tryz.f180 tmps).run Tryz.prog W = .ok (.agg #[v0, v1, v2, v3]) W := by
  obtain ⟨⟨a0, a1, a2, a3⟩, -, -⟩ := h
  simp [results, Tryz.results180, go_sem, a0, a1, a2, a3, ht]
set_option maxHeartbeats 4000000 in
theorem value_core64 (v : Value) (n N p : Int) (X s o ee : Nat) (g q : Bool) (w : World) (hT : Tab w)
    (FL : Hid (∀ w, Calls Tryz.prog 178 #[v, .int .i64 n] w fun e w' => e = .returned (.float .f64 X) ∧ Below w.heap.size w w'))
    (BO : Hid (∀ w, Calls Tryz.prog 159 #[.int .i64 64, .int .u64 (X : Int)] w fun e w' => e = .returned (.tuple #[.int .i64 N, .bool q]) ∧ Below w.heap.size w w'))
    (PT : Hid (∀ w, Calls Tryz.prog 38 #[.int .i64 64, .int .i64 N] w fun e w' => e = .returned (.tuple #[.agg #[.bool g, .int .u64 (s : Int), .int .i64 p], .bool true]) ∧ Below w.heap.size w w'))
    (TZ : Hid (∀ w, Tab w → Calls Tryz.prog 123 #[.int .u64 (s : Int)] w fun e w' => e = .returned (.int .i64 (ee : Int)) ∧ w' = w))
    (hsh : Op.shift .shr .u64 (s : Int) .i64 (ee : Int) = pure (.int .u64 (o : Int))) (hdv : (s : Int) / 2 ^ ee = (o : Int)) (ho : o < 18446744073709551616) (he : (ee : Int) ≤ 64) (hp : -2000 ≤ p ∧ p ≤ 2000) :
    Calls Tryz.prog 180 #[v, .int .i64 n] w fun e w' => (∃ av cv bv dv, e = .returned (.agg #[.bool g, .slice av (natL o).length cv, .slice bv (natL 1).length dv, .int .i64 (p + ee)]) ∧ OI w' w.heap.size av cv (natL o) ∧ OI w' w.heap.size bv dv (natL 1)) ∧ Below w.heap.size w w' := by
  have c64 := bits64 X
  have NO := hd (iNatOf o ho)
  have WH := hd (fun a l k w => iWhole g a l k w)
  have e0 : Below w.heap.size w (w.alloc (.cells #[.bool false, .slice none 0 0, .slice none 0 0, .int .i64 0] 86)) := (by repeat (first | exact Below.refl _ _ | refine Below.drew ?_ | refine old_alloc ?_ _ | refine old_trans ?_ (by assumption)))
  have K := C4.new w (.bool false) (.slice none 0 0) (.slice none 0 0) (.int .i64 0) 86
  have hs0 := K.lt
  generalize natL 1 = ol at *
  generalize natL o = tl at *
  clear ho
  go_enter Tryz.func180, Tryz.ntmps180
  go_wp2_with fail
  refine (FL.out _).mono ?_
  rintro e w1 ⟨rfl, hb1⟩
  replace K := K.old hb1
  have hB := old_trans e0 hb1
  clear hb1 FL
  go_wp2_with fail
  refine (BO.out _).mono ?_
  rintro e w2 ⟨rfl, hb2⟩
  replace K := K.old hb2
  replace hB := old_trans hB hb2
  clear hb2 BO
  go_wp2_with fail
  refine (PT.out _).mono ?_
  rintro e w3 ⟨rfl, hb3⟩
  replace K := K.old hb3
  replace hB := old_trans hB hb3
  clear hb3 PT
  have hlt := K.lt
  have ha : Below w3.heap.size w3 (w3.alloc (.cells #[.bool g, .int .u64 (s : Int), .int .i64 p] 73)) := old_alloc (Below.refl _ _) _
  have hB4 := old_trans hB ha
  have K4 := K.old ha
  have P3 := Cel3.new w3 (.bool g) (.int .u64 (s : Int)) (.int .i64 p) 73
  go_wp2_with fail
  refine (TZ.out _ (hT.old hB4)).mono ?_
  rintro e w4 ⟨rfl, rfl⟩
  clear TZ hT ha hB K
  have hS : (w3.alloc (.cells #[.bool g, .int .u64 (s : Int), .int .i64 p] 73)).cell? ⟨w3.heap.size, 0, none⟩ = some (.bool g) ∧ (w3.alloc (.cells #[.bool g, .int .u64 (s : Int), .int .i64 p] 73)).cell? ⟨w3.heap.size, 1, none⟩ = some (.int .u64 (s : Int)) ∧ (w3.alloc (.cells #[.bool g, .int .u64 (s : Int), .int .i64 p] 73)).cell? ⟨w3.heap.size, 2, none⟩ = some (.int .i64 p) := P3.2.1
  generalize w3.alloc (.cells #[.bool g, .int .u64 (s : Int), .int .i64 p] 73) = W at *
  generalize w3.heap.size = PB at *
  have CN := hd (fun w' (hS : w'.cell? ⟨PB, 0, none⟩ = some (.bool g) ∧ w'.cell? ⟨PB, 1, none⟩ = some (.int .u64 (s : Int)) ∧ w'.cell? ⟨PB, 2, none⟩ = some (.int .i64 p)) => (NO.out w').mono (fun e w'' (k : _ ∧ _) => (⟨k, three_later hS k.2⟩ : (_ ∧ _) ∧ (w''.cell? ⟨PB, 0, none⟩ = some (.bool g) ∧ w''.cell? ⟨PB, 1, none⟩ = some (.int .u64 (s : Int)) ∧ w''.cell? ⟨PB, 2, none⟩ = some (.int .i64 p)))))
  have CW := hd (fun a l k w' (hS : w'.cell? ⟨PB, 0, none⟩ = some (.bool g) ∧ w'.cell? ⟨PB, 1, none⟩ = some (.int .u64 (s : Int)) ∧ w'.cell? ⟨PB, 2, none⟩ = some (.int .i64 p)) => (WH.out a l k w').mono (fun e w'' (k : _ ∧ _) => (⟨k, three_later hS k.2⟩ : (_ ∧ _) ∧ (w''.cell? ⟨PB, 0, none⟩ = some (.bool g) ∧ w''.cell? ⟨PB, 1, none⟩ = some (.int .u64 (s : Int)) ∧ w''.cell? ⟨PB, 2, none⟩ = some (.int .i64 p)))))
  clear NO WH P3
  obtain ⟨h0, h1, h2⟩ := id hS
  have z1 : w.heap.size ≠ PB := by omega
  have z2 := z1.symm
  have hwr : IntKind.i64.wrap (p + (ee : Int)) = p + ee := by simp [IntKind.wrap, IntKind.bits, IntKind.signed]; omega
  go_wp2_with fail
  go_region_held3 (fun w' => w'.cell? ⟨PB, 0, none⟩ = some (.bool g) ∧ w'.cell? ⟨PB, 1, none⟩ = some (.int .u64 (s : Int)) ∧ w'.cell? ⟨PB, 2, none⟩ = some (.int .i64 p)) (go_keep) (first | (go_at_call 163; refine (CN.out _ (by assumption)).mono ?_; rintro e wx ⟨⟨⟨av, cvv, rfl, A⟩, hbx⟩, hcx⟩; have hBx := (by first | exact old_trans hB4 hbx | exact old_trans (Below.drew hB4) hbx : Below w.heap.size w wx); have Kx := (by first | exact K4.old hbx | exact K4.drew.old hbx : C4 wx _ _ _ _ _)) | (go_at_call 162; refine (CW.out _ _ _ _ (by assumption)).mono ?_; rintro e wy ⟨⟨⟨bv, dv, rfl, B⟩, hby⟩, hcy⟩; have hBy := (by first | exact old_trans hBx hby | exact old_trans (Below.drew hBx) hby : Below w.heap.size w wy); have Ky := (by first | exact Kx.old hby | exact Kx.drew.old hby : C4 wy _ _ _ _ _); have A2 := (by first | exact A.later hby | exact OI.later (w := World.drew _) A hby : OI wy _ _ _ _); obtain ⟨⟨y0, y1, y2, y3⟩, ⟨f0, f1, f2, f3⟩, yz⟩ := id Ky))
  all_goals
    go_wp2
    have q1 : w.heap.size < W.heap.size := K4.lt
    have q3 : w.heap.size < wx.heap.size := Kx.lt
    exact bodyPost_ret (resVal64 (by first | with_reducible exact Ky.stored _ _ _ _ | with_reducible exact (Ky.stored _ _ _ _).drew | exact Ky.stored _ _ _ _ | exact (Ky.stored _ _ _ _).drew) rfl) rfl ⟨⟨_, _, _, _, rfl, OI.mono (by exact oi_setFar (oi_setFar (oi_setFar (oi_setFar A2 (by exact q1)) (by exact q1)) (by exact q1)) (by exact q1)) (by exact Nat.le_of_lt q1), OI.mono (by exact oi_setFar (oi_setFar (oi_setFar (oi_setFar B (by exact q3)) (by exact q3)) (by exact q3)) (by exact q3)) (by exact Nat.le_of_lt q3)⟩, (by exact below_set (below_set (below_set (below_set hBy (Nat.le_refl _) _) (Nat.le_refl _) _) (Nat.le_refl _) _) (Nat.le_refl _) _)⟩
end Go.Proofs.YtgoffjpfddmhhaaGreatDoor

/- The value of a finite float as a fraction in lowest terms, by the program. Conditions: the library's table and its handle of errors hold what their texts lay. -/
namespace Go.Proofs.YtgoffjpfddmhhaaGreatDoor
open Go.RowKit
set_option linter.unusedVariables false
set_option maxRecDepth 100000

theorem absI_nat (n : Int) : absI n = (n.natAbs : Int) := by unfold absI; split <;> omega
theorem widI_fin {n : Int} (h1 : -2139095040 < n) (h2 : n < 2139095040) : decide (widI n < 0) = decide (n < 0) ∧ absI (widI n) = (wid n.natAbs : Nat) ∧ -9218868437227405312 < widI n ∧ widI n < 9218868437227405312 := by
  have hl := @wid_lt n.natAbs (by omega)
  unfold widI
  by_cases h : n < 0
  · have e : (-n).toNat = n.natAbs := by omega
    have hp : 0 < wid n.natAbs := by
      have := @wid_mono 0 n.natAbs (by omega) (by omega)
      rw [wid_zero] at this
      exact this
    rw [if_pos h, e]
    refine ⟨by rw [decide_eq_decide]; omega, ?_, by omega, by omega⟩
    unfold absI
    rw [if_pos (by omega)]
    omega
  · have e : n.toNat = n.natAbs := by omega
    rw [if_neg h, e]
    refine ⟨by rw [decide_eq_decide]; omega, ?_, by omega, by omega⟩
    unfold absI
    rw [if_neg (by omega)]

theorem bitsI_wordF (n : Int) (h1 : -2139095040 ≤ n) (h2 : n ≤ 2139095040) : (bitsI 2147483648 n).toNat = Ieee.single.word (decide (n < 0)) (if n < 0 then (-n).toNat else n.toNat) := by
  have hs : Ieee.single.signWeight = 2147483648 := by decide
  unfold bitsI Ieee.Format.word
  rw [hs]
  by_cases h : n < 0
  · simp only [h, decide_true, if_true]; omega
  · simp only [h, decide_false]; simp

theorem ord_wordF (neg : Bool) (R : Nat) (h : R ≤ 9218868437227405312) : ordN 9223372036854775808 9218868437227405312 (Ieee.double.word neg R : Nat) = if neg then -(R : Int) else R := by
  have hs : Ieee.double.signWeight = 9223372036854775808 := by decide
  unfold ordN Ieee.Format.word
  rw [hs]
  cases neg
  · simp only [Bool.false_eq_true, if_false]
    (repeat' split) <;> omega
  · simp only [if_true]
    (repeat' split) <;> omega

/-- what value answers: a size without the twos in it, and its power -/
def ValRes (w' : World) (base : Nat) (e : Ending) (g : Bool) (A B : Nat) : Prop :=
  ∃ (o : Nat) (p : Int) (av bv : Option Addr) (cv dv : Nat), e = .returned (.agg #[.bool g, .slice av (natL o).length cv, .slice bv (natL 1).length dv, .int .i64 p]) ∧ OI w' base av cv (natL o) ∧ OI w' base bv dv (natL 1) ∧ o < 9007199254740992 ∧ (-2000 ≤ p ∧ p ≤ 2000) ∧ SameF (vA o p) (vB p) A B

theorem o_le {s o e : Nat} (h : s = o * 2 ^ e) (hs : s < 9007199254740992) : o < 9007199254740992 := by
  have : o ≤ s := by rw [h]; exact Nat.le_mul_of_pos_right _ (Nat.pow_pos (by omega))
  omega
theorem iValue64 (v : Value) (n : Int) (h1 : -9218868437227405312 < n) (h2 : n < 9218868437227405312) (w : World) (hT : Tab w) :
    Calls Tryz.prog 180 #[v, .int .i64 n] w fun e w' => ValRes w' w.heap.size e (decide (n < 0)) (vA (sz 4503599627370496 n.natAbs) (pw 4503599627370496 (-1074) n.natAbs)) (vB (pw 4503599627370496 (-1074) n.natAbs)) ∧ Below w.heap.size w w' := by
  have hm : n.natAbs < 9218868437227405312 := by omega
  have hs := @sz_bd n.natAbs
  have hp := pw_bd hm
  obtain ⟨o, ee, q1, q2, q3, q4, q5⟩ := twos_size _ hs
  have PT := fun w => iPart_64 n h1 h2 w
  unfold partV at PT
  rw [absI_nat, show (4503599627370496 : Int) = ((4503599627370496 : Nat) : Int) from rfl, pSize_nat, pPow_nat] at PT
  have hb0 : 0 ≤ bitsI 9223372036854775808 n := by unfold bitsI; split <;> omega
  have hb1 : bitsI 9223372036854775808 n < 18446744073709551616 := by unfold bitsI; split <;> omega
  have hN : ordN 9223372036854775808 9218868437227405312 ((bitsI 9223372036854775808 n).toNat : Nat) = n := by
    rw [Int.toNat_of_nonneg hb0]
    unfold ordN bitsI
    (repeat' split) <;> omega
  have BO := fun w => iBitOrd_64 ((bitsI 9223372036854775808 n).toNat : Nat) (by omega) (by omega) w
  rw [hN] at BO
  refine (value_core64 v n n _ _ _ o ee _ _ w hT (hd (fun w => iFloat64 v n (by omega) (by omega) w)) (hd BO) (hd PT) (hd q5) (shr_u64 _ _ _ q3 q2) (div_pow q3) q4 (by omega) (by omega)).mono ?_
  rintro e w' ⟨⟨av, cv, bv, dv, rfl, A, B⟩, hb⟩
  exact ⟨⟨o, _, av, bv, cv, dv, rfl, A, B, o_le q1 hs, by omega, same_own q1⟩, hb⟩
theorem iValue32 (v : Value) (n : Int) (h1 : -2139095040 < n) (h2 : n < 2139095040) (w : World) (hT : Tab w) :
    Calls Tryz.prog 152 #[v, .int .i64 n] w fun e w' => ValRes w' w.heap.size e (decide (n < 0)) (vA (sz 8388608 n.natAbs) (pw 8388608 (-149) n.natAbs)) (vB (pw 8388608 (-149) n.natAbs)) ∧ Below w.heap.size w w' := by
  have hm : n.natAbs < 2139095040 := by omega
  obtain ⟨g1, g2, g3, g4⟩ := widI_fin h1 h2
  have hM : wid n.natAbs < 9218868437227405312 := wid_lt hm
  have hs := @sz_bd (wid n.natAbs)
  have hp := pw_bd hM
  obtain ⟨o, ee, q1, q2, q3, q4, q5⟩ := twos_size _ hs
  have PT := fun w => iPart_64 (widI n) g3 g4 w
  unfold partV at PT
  rw [g1, g2, show (4503599627370496 : Int) = ((4503599627370496 : Nat) : Int) from rfl, pSize_nat, pPow_nat] at PT
  have hr : (if n < 0 then (-n).toNat else n.toNat) ≤ 2139095040 := by split <;> omega
  have hw := bitsI_wordF n (by omega) (by omega)
  have hb := wid_bd hr
  have hc := f2f_widen (decide (n < 0)) _ hr
  rw [← hw] at hc
  have hsw : Ieee.double.signWeight = 9223372036854775808 := by decide
  have hX : Ieee.double.word (decide (n < 0)) (wid (if n < 0 then (-n).toNat else n.toNat)) < 18446744073709551616 := by
    unfold Ieee.Format.word
    rw [hsw]
    split <;> omega
  have hN : ordN 9223372036854775808 9218868437227405312 (Ieee.double.word (decide (n < 0)) (wid (if n < 0 then (-n).toNat else n.toNat)) : Nat) = widI n := by
    rw [ord_wordF _ _ hb]
    unfold widI
    by_cases h : n < 0
    · simp only [h, decide_true, if_true]
    · simp only [h, decide_false]; simp
  have BO := fun w => iBitOrd_64 (Ieee.double.word (decide (n < 0)) (wid (if n < 0 then (-n).toNat else n.toNat)) : Nat) (by omega) (by omega) w
  rw [hN] at BO
  refine (value_core32 v n (widI n) _ _ _ _ o ee _ _ w hT (hd (fun w => iFloat32 v n (by omega) (by omega) w)) (fun w => run_convert_float_float w 208 214 .f32 .f64 _ _ (by kernel_rfl) (by kernel_rfl) hc) (hd BO) (hd PT) (hd q5) (shr_u64 _ _ _ q3 q2) (div_pow q3) q4 (by omega) (by omega)).mono ?_
  rintro e w' ⟨⟨av, cv, bv, dv, rfl, A, B⟩, hb⟩
  exact ⟨⟨o, _, av, bv, cv, dv, rfl, A, B, o_le q1 hs, by omega, same_wide hm q1⟩, hb⟩
end Go.Proofs.YtgoffjpfddmhhaaGreatDoor

/- A fraction times a power of two as a fraction alone, by the program; nothing that was there is written. -/
namespace Go.Proofs.YtgoffjpfddmhhaaGreatDoor
open Go.RowKit
set_option linter.unusedVariables false
set_option maxRecDepth 100000

theorem pow_16 (P q : Nat) : 65536 ^ P * 2 ^ q = 2 ^ (16 * P + q) := by
  rw [Nat.pow_add, Nat.pow_mul]
theorem iUpN (a : Option Addr) (cap o k : Nat) (hk : k ≤ 2000) (ho : (natL o).length ≤ 1048576) (w : World) (hR : InI w a (natL o).length cap (natL o)) :
    Calls Tryz.prog 68 #[.slice a (natL o).length cap, .int .i64 (k : Int)] w fun e w' => (∃ av cv, e = .returned (.slice av (natL (2 ^ k * o)).length cv) ∧ OI w' w.heap.size av cv (natL (2 ^ k * o))) ∧ Below w.heap.size w w' := by
  have h := iUp a (natL o).length cap (natL o) (k / 16) (k % 16) w hR (digs_natL o) (by omega) (by omega) ho
  have e1 : (16 * ((k / 16 : Nat) : Int) + ((k % 16 : Nat) : Int)) = (k : Int) := by omega
  have e2 : 65536 ^ (k / 16) * 2 ^ (k % 16) * val (natL o) = 2 ^ k * o := by
    rw [pow_16, val_natL, show 16 * (k / 16) + k % 16 = k by omega]
  rw [e1, e2] at h
  exact h
theorem resUns {W : World} {b : Nat} {v0 v1 v2 : Value} {tmps : Array Value} (h : Cel3 W b v0 v1 v2) (ht : tmps[2]? = some (.pointer (some ⟨b, 0, none⟩))) : (results Tryz.f40 tmps).run Tryz.prog W = .ok (.agg #[v0, v1, v2]) W := by
  obtain ⟨-, ⟨a0, a1, a2⟩, -⟩ := h
  simp [results, Tryz.results40, go_sem, a0, a1, a2, ht]
theorem natL_small {o : Nat} (h : o < 9007199254740992) : (natL o).length ≤ 4 := by
  have e : (65536 : Nat) ^ 4 = 18446744073709551616 := by decide
  exact natL_len.2 (by omega)
set_option maxHeartbeats 4000000 in
theorem iUnscaled (bl : Bool) (a b : Option Addr) (ca cb o : Nat) (p : Int) (w : World) (hA : InI w a (natL o).length ca (natL o)) (hB : InI w b (natL 1).length cb (natL 1)) (ho : o < 9007199254740992) (hp : -2000 ≤ p ∧ p ≤ 2000) :
    Calls Tryz.prog 40 #[.agg #[.bool bl, .slice a (natL o).length ca, .slice b (natL 1).length cb, .int .i64 p]] w fun e w' => (∃ av cv bv dv, e = .returned (.agg #[.bool bl, .slice av (natL (vA o p)).length cv, .slice bv (natL (vB p)).length dv]) ∧ InI w' av (natL (vA o p)).length cv (natL (vA o p)) ∧ InI w' bv (natL (vB p)).length dv (natL (vB p))) ∧ Below w.heap.size w w' := by
  have hlo := natL_small ho
  have hl1 := natL_small (o := 1) (by omega)
  have e3 : Below w.heap.size w (((w.alloc (.cells #[.bool bl, .slice a (natL o).length ca, .slice b (natL 1).length cb, .int .i64 p] 86)).alloc (.cells #[.bool false, .slice none 0 0, .slice none 0 0] 84)).alloc (.cells #[.bool bl, .slice a (natL o).length ca, .slice b (natL 1).length cb] 84)) := (by repeat (first | exact Below.refl _ _ | refine Below.drew ?_ | refine old_alloc ?_ _ | refine old_trans ?_ (by assumption)))
  have K2 := (Cel3.new (w.alloc (.cells #[.bool bl, .slice a (natL o).length ca, .slice b (natL 1).length cb, .int .i64 p] 86)) (.bool false) (.slice none 0 0) (.slice none 0 0) 84).old (old_alloc (Below.refl _ _) (.cells #[.bool bl, .slice a (natL o).length ca, .slice b (natL 1).length cb] 84))
  have K3 := Cel3.new ((w.alloc (.cells #[.bool bl, .slice a (natL o).length ca, .slice b (natL 1).length cb, .int .i64 p] 86)).alloc (.cells #[.bool false, .slice none 0 0, .slice none 0 0] 84)) (.bool bl) (.slice a (natL o).length ca) (.slice b (natL 1).length cb) 84
  simp only [World.size_alloc] at K2 K3
  by_cases c : p < 0
  · have U1 := hd True.intro
    have hA0 : vA o p = o := by unfold vA; rw [if_neg (by omega)]
    have e2 : vB p = 2 ^ (-p).toNat * 1 := by unfold vB; rw [if_neg (by omega), Nat.mul_one]
    have U2 := fun w h => iUpN b cb 1 (-p).toNat (by omega) (by omega) w h
    rw [← e2, Int.toNat_of_nonneg (by omega)] at U2
    replace U2 := hd U2
    clear e2
    go_enter Tryz.func40, Tryz.ntmps40
    go_wp2_with fail
    refine (U2.out _ (hB.old e3)).mono ?_
    rintro e w1 ⟨⟨av, cv, rfl, O⟩, hb1⟩
    have K := K2.old hb1
    have M := K3.old hb1
    have hB1 := old_trans e3 hb1
    have M' := M.set2 (.slice av (natL (vB p)).length cv)
    have K' := (K.far (c := w.heap.size + 1 + 1) (i := 2) (v := .slice av (natL (vB p)).length cv) (by omega)).setAll (.bool bl) (.slice a (natL o).length ca) (.slice av (natL (vB p)).length cv)
    have o1 := oi_set3 (b := w.heap.size + 1) (v0 := .bool bl) (v1 := .slice a (natL o).length ca) (v2 := .slice av (natL (vB p)).length cv) (oi_setFar (b := w.heap.size + 1 + 1) (i := 2) (v := .slice av (natL (vB p)).length cv) O (by simp)) (by simp)
    have hBF : Below w.heap.size w ((((w1.setCell ⟨w.heap.size + 1 + 1, 2, none⟩ (.slice av (natL (vB p)).length cv)).setCell ⟨w.heap.size + 1, 0, none⟩ (.bool bl)).setCell ⟨w.heap.size + 1, 1, none⟩ (.slice a (natL o).length ca)).setCell ⟨w.heap.size + 1, 2, none⟩ (.slice av (natL (vB p)).length cv)) := below_set (below_set (below_set (below_set hB1 (show w.heap.size ≤ w.heap.size + 1 + 1 by omega) _) (show w.heap.size ≤ w.heap.size + 1 by omega) _) (show w.heap.size ≤ w.heap.size + 1 by omega) _) (show w.heap.size ≤ w.heap.size + 1 by omega) _
    clear O hb1 U1 U2
    obtain ⟨m1, ⟨m2, m3, m4⟩, m5, m6, m7⟩ := id M
    obtain ⟨k1, ⟨k2, k3, k4⟩, k5, k6, k7⟩ := id K
    obtain ⟨n1, ⟨n2, n3, n4⟩, n5, n6, n7⟩ := id M'
    have z1 : w.heap.size + 1 ≠ w.heap.size + 1 + 1 := by omega
    have z2 : w.heap.size + 1 + 1 ≠ w.heap.size + 1 := by omega
    go_wp2
    exact bodyPost_ret (resUns K' rfl) rfl ⟨⟨a, ca, av, cv, by rw [hA0], by rw [hA0]; exact hA.old hBF, o1.inI⟩, hBF⟩
  · have U2 := hd True.intro
    have hB0 : vB p = 1 := by unfold vB; rw [if_pos (by omega)]
    have e2 : vA o p = 2 ^ p.toNat * o := by unfold vA; rw [if_pos (by omega)]
    have U1 := fun w h => iUpN a ca o p.toNat (by omega) (by omega) w h
    rw [← e2, Int.toNat_of_nonneg (by omega)] at U1
    replace U1 := hd U1
    clear e2
    go_enter Tryz.func40, Tryz.ntmps40
    go_wp2_with fail
    refine (U1.out _ (hA.old e3)).mono ?_
    rintro e w1 ⟨⟨av, cv, rfl, O⟩, hb1⟩
    have K := K2.old hb1
    have M := K3.old hb1
    have hB1 := old_trans e3 hb1
    have M' := M.set1 (.slice av (natL (vA o p)).length cv)
    have K' := (K.far (c := w.heap.size + 1 + 1) (i := 1) (v := .slice av (natL (vA o p)).length cv) (by omega)).setAll (.bool bl) (.slice av (natL (vA o p)).length cv) (.slice b (natL 1).length cb)
    have o1 := oi_set3 (b := w.heap.size + 1) (v0 := .bool bl) (v1 := .slice av (natL (vA o p)).length cv) (v2 := .slice b (natL 1).length cb) (oi_setFar (b := w.heap.size + 1 + 1) (i := 1) (v := .slice av (natL (vA o p)).length cv) O (by simp)) (by simp)
    have hBF : Below w.heap.size w ((((w1.setCell ⟨w.heap.size + 1 + 1, 1, none⟩ (.slice av (natL (vA o p)).length cv)).setCell ⟨w.heap.size + 1, 0, none⟩ (.bool bl)).setCell ⟨w.heap.size + 1, 1, none⟩ (.slice av (natL (vA o p)).length cv)).setCell ⟨w.heap.size + 1, 2, none⟩ (.slice b (natL 1).length cb)) := below_set (below_set (below_set (below_set hB1 (show w.heap.size ≤ w.heap.size + 1 + 1 by omega) _) (show w.heap.size ≤ w.heap.size + 1 by omega) _) (show w.heap.size ≤ w.heap.size + 1 by omega) _) (show w.heap.size ≤ w.heap.size + 1 by omega) _
    clear O hb1 U1 U2
    obtain ⟨m1, ⟨m2, m3, m4⟩, m5, m6, m7⟩ := id M
    obtain ⟨k1, ⟨k2, k3, k4⟩, k5, k6, k7⟩ := id K
    obtain ⟨n1, ⟨n2, n3, n4⟩, n5, n6, n7⟩ := id M'
    have z1 : w.heap.size + 1 ≠ w.heap.size + 1 + 1 := by omega
    have z2 : w.heap.size + 1 + 1 ≠ w.heap.size + 1 := by omega
    go_wp2
    exact bodyPost_ret (resUns K' rfl) rfl ⟨⟨av, cv, b, cb, by rw [hB0], o1.inI, by rw [hB0]; exact hB.old hBF⟩, hBF⟩
end Go.Proofs.YtgoffjpfddmhhaaGreatDoor

/- The value of a float as a fraction in lowest terms, by the program: FloatFrac. Conditions: the library's table and its handle of errors hold what their texts lay. -/
namespace Go.Proofs.YtgoffjpfddmhhaaGreatDoor
open Go.RowKit
set_option linter.unusedVariables false
set_option maxRecDepth 100000

theorem two_bd {k e : Nat} (h : k ≤ e) : 2 ^ k ≤ 2 ^ e := Nat.pow_le_pow_right (by omega) h
theorem p16 (k : Nat) : 65536 ^ k = 2 ^ (16 * k) := by rw [Nat.pow_mul]
theorem vA_lt {o e : Nat} {p : Int} (ho : o < 2 ^ 53) (he : p.toNat + 53 ≤ e) : vA o p < 2 ^ e := by
  refine Nat.lt_of_lt_of_le ?_ (two_bd he)
  unfold vA
  rw [Nat.pow_add]
  have h0 : 0 < 2 ^ p.toNat := Nat.pow_pos (by omega)
  split
  · exact Nat.mul_lt_mul_of_pos_left ho h0
  · exact Nat.lt_of_lt_of_le ho (Nat.le_mul_of_pos_left _ h0)
theorem vB_lt {e : Nat} {p : Int} (he : (-p).toNat < e) : vB p < 2 ^ e := by
  unfold vB
  split
  · exact Nat.one_lt_two_pow (by omega)
  · exact Nat.pow_lt_pow_right (by omega) he
theorem natL_len2 {v k : Nat} (h : v < 2 ^ (16 * k)) : (natL v).length ≤ k := natL_len.2 (by rw [p16]; exact h)
theorem vA_lenk {o k : Nat} {p : Int} (ho : o < 2 ^ 53) (hp : p.toNat + 53 ≤ 16 * k) : (natL (vA o p)).length ≤ k := natL_len2 (vA_lt ho hp)
theorem vB_lenk {k : Nat} {p : Int} (hp : (-p).toNat < 16 * k) : (natL (vB p)).length ≤ k := natL_len2 (vB_lt hp)
theorem vA_len {o : Nat} {p : Int} (ho : o < 9007199254740992) (hp : p ≤ 2000) : (natL (vA o p)).length ≤ 1024 :=
  vA_lenk ho (by omega)
theorem vB_len {p : Int} (hp : -2000 ≤ p) : (natL (vB p)).length ≤ 1024 :=
  vB_lenk (by omega)
theorem resFF {W : World} {b : Nat} {v0 v1 v2 r : Value} {tmps : Array Value} (h : Cel3 W b v0 v1 v2) (ht : tmps[4]? = some (.pointer (some ⟨b, 0, none⟩))) (h3 : tmps[5]? = some r) : (results Tryz.f12 tmps).run Tryz.prog W = .ok (.tuple #[.agg #[v0, v1, v2], r]) W := by
  obtain ⟨-, ⟨a0, a1, a2⟩, -⟩ := h
  simp [results, Tryz.results12, go_sem, a0, a1, a2, ht, h3]
theorem meth_value_32 (v : Value) (w : World) : (method 341 121 v "loop.example/pinfold/impl.value").run Tryz.prog w = .ok (152, v) w := by kernel_rfl
set_option maxHeartbeats 1000000 in
theorem iValuesOf32 (w : World) :
    Calls Tryz.prog 37 #[.int .i64 32] w fun e w' => (∃ b, e = .returned (.tuple #[.iface 121 (.pointer (some ⟨b, 0, none⟩)), .bool true])) ∧ Below w.heap.size w w' := by
  go_enter Tryz.func37, Tryz.ntmps37
  go_wp2
  go_ret2
  exact ⟨⟨_, rfl⟩, (by repeat (first | exact Below.refl _ _ | refine Below.drew ?_ | refine old_alloc ?_ _ | refine old_trans ?_ (by assumption)))⟩
set_option maxHeartbeats 4000000 in
theorem iFloatFrac32 (n : Int) (h1 : -2139095040 < n) (h2 : n < 2139095040) (w : World) (hT : Tab w) (hE : ET w) :
    Calls Tryz.prog 12 #[.int .i64 32, .int .i64 n] w fun e w' => FRes w' w.heap.size e (lowB (vA (sz 8388608 n.natAbs) (pw 8388608 (-149) n.natAbs)) (vB (pw 8388608 (-149) n.natAbs))) (decide (n < 0)) (vA (sz 8388608 n.natAbs) (pw 8388608 (-149) n.natAbs)) (vB (pw 8388608 (-149) n.natAbs)) ∧ Below w.heap.size w w' := by
  have m1 := meth_value_32
  have VO := hd iValuesOf32
  have PT := hd (fun w => iPart_32 n h1 h2 w)
  have VA := hd (fun v w hT => iValue32 v n h1 h2 w hT)
  unfold partV at PT
  generalize pSize 8388608 (absI n) = ps at *
  generalize pPow 8388608 (-149) (absI n) = pp at *
  generalize decide (n < 0) = g at *
  generalize (vA (sz 8388608 n.natAbs) (pw 8388608 (-149) n.natAbs)) = A at *
  generalize (vB (pw 8388608 (-149) n.natAbs)) = B at *
  have K := Cel3.new w (.bool false) (.slice none 0 0) (.slice none 0 0) 25
  have hB : Below w.heap.size w (w.alloc (.cells #[.bool false, .slice none 0 0, .slice none 0 0] 25)) := (by repeat (first | exact Below.refl _ _ | refine Below.drew ?_ | refine old_alloc ?_ _ | refine old_trans ?_ (by assumption)))
  clear h1 h2
  go_enter Tryz.func12, Tryz.ntmps12
  go_wp2_with fail
  refine (VO.out _).mono ?_
  rintro e w1 ⟨⟨b, rfl⟩, hb1⟩
  replace K := K.old hb1
  replace hB := old_trans hB hb1
  clear hb1 VO
  go_wp2_with fail
  refine (PT.out _).mono ?_
  rintro e w2 ⟨rfl, hb2⟩
  replace K := K.old hb2
  replace hB := old_trans hB hb2
  clear hb2 PT
  have ha : Below w2.heap.size w2 (w2.alloc (.cells #[.bool g, .int .u64 ps, .int .i64 pp] 73)) := old_alloc (Below.refl _ _) _
  have K3 := K.old ha
  have hB3 := old_trans hB ha
  clear K hB ha
  go_wp2_with fail
  refine (VA.out _ _ (hT.old hB3)).mono ?_
  rintro e w3 ⟨⟨o, p, av, bv, cv, dv, rfl, O1, O2, ho, hp, hSm⟩, hb3⟩
  have K := K3.old hb3
  have hB := old_trans hB3 hb3
  clear hb3 VA K3 hB3 m1
  go_wp2_with fail
  refine (iUnscaled g av bv cv dv o p _ O1.inI O2.inI ho hp).mono ?_
  rintro e w4 ⟨⟨av, cv, bv, dv, rfl, I1, I2⟩, hb4⟩
  replace K := K.old hb4
  replace hB := old_trans hB hb4
  clear hb4 O1 O2
  have l1 := vA_len ho hp.2
  have l2 := vB_len hp.1
  go_wp2_with fail
  refine (iLowest g av bv cv dv (vA o p) (vB p) _ I1 I2 l1 l2 (hT.old hB)).mono ?_
  have hlt := K.1
  rintro e w4' ⟨hlow, hb4⟩
  replace K := K.old hb4
  replace hB := old_trans hB hb4
  clear hb4 I1 I2 l1 l2 ho hp hT
  rcases hlow with ⟨hl, av, cv, av', cv', rfl, O1, O2, Sp⟩ | ⟨hl, s, rfl⟩
  · generalize hsg : (g && decide (vA o p ≠ 0)) = sg
    go_wp2_with fail
    refine (iAnsNil _ _ _ (sl _ _ _) (sl _ _ _) _).mono ?_
    rintro e w5 ⟨rfl, hb5⟩
    replace K := K.old hb5
    replace hB := old_trans hB hb5
    obtain ⟨m1, ⟨m2, m3, m4⟩, m5, m6, m7⟩ := id K
    have hK := K.setAll (.bool sg) (.slice av (lowT (vA o p) (vB p)).length cv) (.slice av' (lowU (vA o p) (vB p)).length cv')
    have hBF := below_set (below_set (below_set hB (Nat.le_refl w.heap.size) (i := 0) (.bool sg)) (Nat.le_refl w.heap.size) (i := 1) (.slice av (lowT (vA o p) (vB p)).length cv)) (Nat.le_refl w.heap.size) (i := 2) (.slice av' (lowU (vA o p) (vB p)).length cv')
    have R : FRes (((w5.setCell ⟨w.heap.size, 0, none⟩ (.bool sg)).setCell ⟨w.heap.size, 1, none⟩ (.slice av (lowT (vA o p) (vB p)).length cv)).setCell ⟨w.heap.size, 2, none⟩ (.slice av' (lowU (vA o p) (vB p)).length cv')) w.heap.size (.returned (.tuple #[.agg #[.bool sg, .slice av (lowT (vA o p) (vB p)).length cv, .slice av' (lowU (vA o p) (vB p)).length cv'], .bool true])) (lowB (vA o p) (vB p)) g (vA o p) (vB p) := by
      rw [hl]
      rw [← hsg]
      exact FRes.yes ((oi_set3 (O1.later hb5) hlt).mono (Nat.le_of_lt hlt)) ((oi_set3 (O2.later hb5) hlt).mono (Nat.le_of_lt hlt)) Sp
    replace R := hd (hSm.res R)
    clear hb5 hSm
    go_wp2
    exact bodyPost_ret (resFF hK rfl rfl) rfl ⟨R.out, hBF⟩
  · go_wp2_with fail
    refine (iAnsFault _ _ _ (sl _ _ _) (sl _ _ _) _ _ (hE.old hB)).mono ?_
    rintro e w5 ⟨rfl, hb5⟩
    replace K := K.old hb5
    replace hB := old_trans hB hb5
    obtain ⟨m1, ⟨m2, m3, m4⟩, m5, m6, m7⟩ := id K
    have hK := K.setAll (.bool false) (.slice none 0 0) (.slice none 0 0)
    have hBF := below_set (below_set (below_set hB (Nat.le_refl w.heap.size) (i := 0) (.bool false)) (Nat.le_refl w.heap.size) (i := 1) (.slice none 0 0)) (Nat.le_refl w.heap.size) (i := 2) (.slice none 0 0)
    have R : FRes (((w5.setCell ⟨w.heap.size, 0, none⟩ (.bool false)).setCell ⟨w.heap.size, 1, none⟩ (.slice none 0 0)).setCell ⟨w.heap.size, 2, none⟩ (.slice none 0 0)) w.heap.size (.returned (.tuple #[.agg #[.bool false, .slice none 0 0, .slice none 0 0], .bool false])) (lowB (vA o p) (vB p)) g (vA o p) (vB p) := by
      rw [hl]
      exact FRes.no _ _ _ _ _
    replace R := hd (hSm.res R)
    clear hb5 hSm
    go_wp2
    exact bodyPost_ret (resFF hK rfl rfl) rfl ⟨R.out, hBF⟩
theorem meth_value_64 (v : Value) (w : World) : (method 341 124 v "loop.example/pinfold/impl.value").run Tryz.prog w = .ok (180, v) w := by kernel_rfl
set_option maxHeartbeats 1000000 in
theorem iValuesOf64 (w : World) :
    Calls Tryz.prog 37 #[.int .i64 64] w fun e w' => (∃ b, e = .returned (.tuple #[.iface 124 (.pointer (some ⟨b, 0, none⟩)), .bool true])) ∧ Below w.heap.size w w' := by
  go_enter Tryz.func37, Tryz.ntmps37
  go_wp2
  go_ret2
  exact ⟨⟨_, rfl⟩, (by repeat (first | exact Below.refl _ _ | refine Below.drew ?_ | refine old_alloc ?_ _ | refine old_trans ?_ (by assumption)))⟩
set_option maxHeartbeats 4000000 in
theorem iFloatFrac64 (n : Int) (h1 : -9218868437227405312 < n) (h2 : n < 9218868437227405312) (w : World) (hT : Tab w) (hE : ET w) :
    Calls Tryz.prog 12 #[.int .i64 64, .int .i64 n] w fun e w' => FRes w' w.heap.size e (lowB (vA (sz 4503599627370496 n.natAbs) (pw 4503599627370496 (-1074) n.natAbs)) (vB (pw 4503599627370496 (-1074) n.natAbs))) (decide (n < 0)) (vA (sz 4503599627370496 n.natAbs) (pw 4503599627370496 (-1074) n.natAbs)) (vB (pw 4503599627370496 (-1074) n.natAbs)) ∧ Below w.heap.size w w' := by
  have m1 := meth_value_64
  have VO := hd iValuesOf64
  have PT := hd (fun w => iPart_64 n h1 h2 w)
  have VA := hd (fun v w hT => iValue64 v n h1 h2 w hT)
  unfold partV at PT
  generalize pSize 4503599627370496 (absI n) = ps at *
  generalize pPow 4503599627370496 (-1074) (absI n) = pp at *
  generalize decide (n < 0) = g at *
  generalize (vA (sz 4503599627370496 n.natAbs) (pw 4503599627370496 (-1074) n.natAbs)) = A at *
  generalize (vB (pw 4503599627370496 (-1074) n.natAbs)) = B at *
  have K := Cel3.new w (.bool false) (.slice none 0 0) (.slice none 0 0) 25
  have hB : Below w.heap.size w (w.alloc (.cells #[.bool false, .slice none 0 0, .slice none 0 0] 25)) := (by repeat (first | exact Below.refl _ _ | refine Below.drew ?_ | refine old_alloc ?_ _ | refine old_trans ?_ (by assumption)))
  clear h1 h2
  go_enter Tryz.func12, Tryz.ntmps12
  go_wp2_with fail
  refine (VO.out _).mono ?_
  rintro e w1 ⟨⟨b, rfl⟩, hb1⟩
  replace K := K.old hb1
  replace hB := old_trans hB hb1
  clear hb1 VO
  go_wp2_with fail
  refine (PT.out _).mono ?_
  rintro e w2 ⟨rfl, hb2⟩
  replace K := K.old hb2
  replace hB := old_trans hB hb2
  clear hb2 PT
  have ha : Below w2.heap.size w2 (w2.alloc (.cells #[.bool g, .int .u64 ps, .int .i64 pp] 73)) := old_alloc (Below.refl _ _) _
  have K3 := K.old ha
  have hB3 := old_trans hB ha
  clear K hB ha
  go_wp2_with fail
  refine (VA.out _ _ (hT.old hB3)).mono ?_
  rintro e w3 ⟨⟨o, p, av, bv, cv, dv, rfl, O1, O2, ho, hp, hSm⟩, hb3⟩
  have K := K3.old hb3
  have hB := old_trans hB3 hb3
  clear hb3 VA K3 hB3 m1
  go_wp2_with fail
  refine (iUnscaled g av bv cv dv o p _ O1.inI O2.inI ho hp).mono ?_
  rintro e w4 ⟨⟨av, cv, bv, dv, rfl, I1, I2⟩, hb4⟩
  replace K := K.old hb4
  replace hB := old_trans hB hb4
  clear hb4 O1 O2
  have l1 := vA_len ho hp.2
  have l2 := vB_len hp.1
  go_wp2_with fail
  refine (iLowest g av bv cv dv (vA o p) (vB p) _ I1 I2 l1 l2 (hT.old hB)).mono ?_
  have hlt := K.1
  rintro e w4' ⟨hlow, hb4⟩
  replace K := K.old hb4
  replace hB := old_trans hB hb4
  clear hb4 I1 I2 l1 l2 ho hp hT
  rcases hlow with ⟨hl, av, cv, av', cv', rfl, O1, O2, Sp⟩ | ⟨hl, s, rfl⟩
  · generalize hsg : (g && decide (vA o p ≠ 0)) = sg
    go_wp2_with fail
    refine (iAnsNil _ _ _ (sl _ _ _) (sl _ _ _) _).mono ?_
    rintro e w5 ⟨rfl, hb5⟩
    replace K := K.old hb5
    replace hB := old_trans hB hb5
    obtain ⟨m1, ⟨m2, m3, m4⟩, m5, m6, m7⟩ := id K
    have hK := K.setAll (.bool sg) (.slice av (lowT (vA o p) (vB p)).length cv) (.slice av' (lowU (vA o p) (vB p)).length cv')
    have hBF := below_set (below_set (below_set hB (Nat.le_refl w.heap.size) (i := 0) (.bool sg)) (Nat.le_refl w.heap.size) (i := 1) (.slice av (lowT (vA o p) (vB p)).length cv)) (Nat.le_refl w.heap.size) (i := 2) (.slice av' (lowU (vA o p) (vB p)).length cv')
    have R : FRes (((w5.setCell ⟨w.heap.size, 0, none⟩ (.bool sg)).setCell ⟨w.heap.size, 1, none⟩ (.slice av (lowT (vA o p) (vB p)).length cv)).setCell ⟨w.heap.size, 2, none⟩ (.slice av' (lowU (vA o p) (vB p)).length cv')) w.heap.size (.returned (.tuple #[.agg #[.bool sg, .slice av (lowT (vA o p) (vB p)).length cv, .slice av' (lowU (vA o p) (vB p)).length cv'], .bool true])) (lowB (vA o p) (vB p)) g (vA o p) (vB p) := by
      rw [hl]
      rw [← hsg]
      exact FRes.yes ((oi_set3 (O1.later hb5) hlt).mono (Nat.le_of_lt hlt)) ((oi_set3 (O2.later hb5) hlt).mono (Nat.le_of_lt hlt)) Sp
    replace R := hd (hSm.res R)
    clear hb5 hSm
    go_wp2
    exact bodyPost_ret (resFF hK rfl rfl) rfl ⟨R.out, hBF⟩
  · go_wp2_with fail
    refine (iAnsFault _ _ _ (sl _ _ _) (sl _ _ _) _ _ (hE.old hB)).mono ?_
    rintro e w5 ⟨rfl, hb5⟩
    replace K := K.old hb5
    replace hB := old_trans hB hb5
    obtain ⟨m1, ⟨m2, m3, m4⟩, m5, m6, m7⟩ := id K
    have hK := K.setAll (.bool false) (.slice none 0 0) (.slice none 0 0)
    have hBF := below_set (below_set (below_set hB (Nat.le_refl w.heap.size) (i := 0) (.bool false)) (Nat.le_refl w.heap.size) (i := 1) (.slice none 0 0)) (Nat.le_refl w.heap.size) (i := 2) (.slice none 0 0)
    have R : FRes (((w5.setCell ⟨w.heap.size, 0, none⟩ (.bool false)).setCell ⟨w.heap.size, 1, none⟩ (.slice none 0 0)).setCell ⟨w.heap.size, 2, none⟩ (.slice none 0 0)) w.heap.size (.returned (.tuple #[.agg #[.bool false, .slice none 0 0, .slice none 0 0], .bool false])) (lowB (vA o p) (vB p)) g (vA o p) (vB p) := by
      rw [hl]
      exact FRes.no _ _ _ _ _
    replace R := hd (hSm.res R)
    clear hb5 hSm
    go_wp2
    exact bodyPost_ret (resFF hK rfl rfl) rfl ⟨R.out, hBF⟩
end Go.Proofs.YtgoffjpfddmhhaaGreatDoor

/- The value of a float as the specification has it: above and below a line. Nothing that was there is written. -/
namespace Go.Proofs.YtgoffjpfddmhhaaGreatDoor
open Go.RowKit
set_option linter.unusedVariables false
set_option maxRecDepth 100000

theorem Cel3.alloc {w : World} {b : Nat} {x y z : Value} (h : Cel3 w b x y z) (o : Obj) : Cel3 (w.alloc o) b x y z := h.old (old_alloc (Below.refl _ _) _)
theorem Cel3.later {w w' : World} {b : Nat} {x y z : Value} (h : Cel3 w b x y z) (g : Below w.heap.size w w') : Cel3 w' b x y z := h.old g
theorem one_oiG (w : World) (t : TypeId) : OI (w.alloc (.cells #[.int .i64 1] t)) w.heap.size (some ⟨w.heap.size, 0, none⟩) 1 [1] := by
  have h := one_oi w t
  rw [natL_one] at h
  exact h
theorem c7a (w : World) (o1 : Obj) (x y z : Value) (t : TypeId) : Cel3 ((w.alloc o1).alloc (.cells #[x, y, z] t)) (w.heap.size + 1) x y z := by
  have h := Cel3.new (w.alloc o1) x y z t
  rw [World.size_alloc] at h
  exact h
theorem one_b (w : World) (o1 : Obj) (t : TypeId) : OI ((w.alloc o1).alloc (.cells #[.int .i64 1] t)) (w.heap.size + 1) (some ⟨w.heap.size + 1, 0, none⟩) 1 [1] := by
  have h := one_oiG (w.alloc o1) t
  rw [World.size_alloc] at h
  exact h
theorem one_d (w : World) (b : Nat) (x y z : Value) (t : TypeId) : OI ((((w.setCell ⟨b, 0, none⟩ x).setCell ⟨b, 1, none⟩ y).setCell ⟨b, 2, none⟩ z).alloc (.cells #[.int .i64 1] t)) w.heap.size (some ⟨w.heap.size, 0, none⟩) 1 [1] := by
  have h := one_oiG (((w.setCell ⟨b, 0, none⟩ x).setCell ⟨b, 1, none⟩ y).setCell ⟨b, 2, none⟩ z) t
  rw [setCell_size, setCell_size, setCell_size] at h
  exact h
theorem three_set {w : World} {p b : Nat} {x y z v0 v1 v2 : Value} (h : w.cell? ⟨p, 0, none⟩ = some x ∧ w.cell? ⟨p, 1, none⟩ = some y ∧ w.cell? ⟨p, 2, none⟩ = some z) (hn : p ≠ b) :
    (((w.setCell ⟨b, 0, none⟩ v0).setCell ⟨b, 1, none⟩ v1).setCell ⟨b, 2, none⟩ v2).cell? ⟨p, 0, none⟩ = some x ∧ (((w.setCell ⟨b, 0, none⟩ v0).setCell ⟨b, 1, none⟩ v1).setCell ⟨b, 2, none⟩ v2).cell? ⟨p, 1, none⟩ = some y ∧ (((w.setCell ⟨b, 0, none⟩ v0).setCell ⟨b, 1, none⟩ v1).setCell ⟨b, 2, none⟩ v2).cell? ⟨p, 2, none⟩ = some z := by
  have o : ∀ (W : World) (i j : Nat) (v : Value), (W.setCell ⟨b, i, none⟩ v).cell? ⟨p, j, none⟩ = W.cell? ⟨p, j, none⟩ := fun W i j v => World.cell?_setCell_other _ _ _ _ (by intro h; injection h with h2 _; omega)
  simp only [o]
  exact h
/-- a list whose numbers lie in no cell of block b -/
def Off (av : Option Addr) (b : Nat) : Prop := ∀ q, av = some q → q.block ≠ b
theorem OI.offLo {w : World} {base cv b : Nat} {av : Option Addr} {xs : List Int} (h : OI w base av cv xs) (hb : b < base) : Off av b := fun q e => by have := h.ge q e; omega
theorem offOne {k b : Nat} (h : k ≠ b) : Off (some ⟨k, 0, none⟩) b := fun q e => by cases e; exact h
theorem OI.offHi {w : World} {base cv b : Nat} {av : Option Addr} {xs : List Int} (h : OI w base av cv xs) (hb : w.heap.size ≤ b) : Off av b := fun q e => by have := h.lt q e; omega
theorem InI.off {w : World} {a : Option Addr} {len cap b i : Nat} {xs : List Int} {v : Value} (h : InI w a len cap xs) (ho : Off a b) : InI (w.setCell ⟨b, i, none⟩ v) a len cap xs := by
  obtain ⟨h1, h2, h3, h4, h5⟩ := h
  refine ⟨h1, h2, h3, h4, ?_⟩
  rcases h5 with h5 | ⟨bb, off, q1, q2, q3⟩
  · exact .inl h5
  · have hn : bb ≠ b := ho _ q1
    refine .inr ⟨bb, off, q1, by simpa [World.setCell] using q2, fun i hi => ?_⟩
    rw [World.cell?_setCell_other _ _ _ _ (by intro h; injection h with h _; exact hn h.symm)]
    exact q3 i hi

theorem pow_lenF {j k : Nat} (h : j < 16 * k) : (natL (2 ^ j)).length ≤ k := natL_len2 (Nat.pow_lt_pow_right (by omega) h)
theorem sPow2N (k : Nat) (hk : k ≤ 1100) (w : World) :
    Calls Tryz.prog 57 #[.int .i64 (k : Int)] w fun e w' => (∃ av cv, e = .returned (.slice av (natL (2 ^ k)).length cv) ∧ OI w' w.heap.size av cv (natL (2 ^ k))) ∧ Below w.heap.size w w' := by
  have h := sPow2 (k / 16) (k % 16) w (by omega) (by omega)
  have e1 : (16 * ((k / 16 : Nat) : Int) + ((k % 16 : Nat) : Int)) = (k : Int) := by omega
  have e2 : 65536 ^ (k / 16) * 2 ^ (k % 16) = 2 ^ k := by rw [pow_16, show 16 * (k / 16) + k % 16 = k by omega]
  rw [e1, e2] at h
  exact h
theorem resL8 {W : World} {b : Nat} {v0 v1 v2 : Value} {tmps : Array Value} (h : Cel3 W b v0 v1 v2) (ht : tmps[4]? = some (.pointer (some ⟨b, 0, none⟩))) : (results Tryz.f45 tmps).run Tryz.prog W = .ok (.agg #[v0, v1, v2]) W := by
  obtain ⟨-, ⟨a0, a1, a2⟩, -⟩ := h
  simp [results, Tryz.results45, go_sem, a0, a1, a2, ht]
set_option maxHeartbeats 4000000 in
theorem l8_cut (wd n p : Int) (s : Nat) (g : Bool) (hs : s < 9007199254740992) (hp : -1100 ≤ p ∧ p ≤ 1100) (w : World)
    (PT : Hid (∀ w, Calls Tryz.prog 44 #[.int .i64 wd, .int .i64 n] w fun e w' => e = .returned (.tuple #[.agg #[.bool g, .int .u64 (s : Int), .int .i64 p], .bool true]) ∧ Below w.heap.size w w')) :
    Calls Tryz.prog 45 #[.int .i64 wd, .int .i64 n] w fun e w' => (∃ av cv bv dv, e = .returned (.agg #[.bool g, .slice av (natL (vA s p)).length cv, .slice bv (natL (vB p)).length dv]) ∧ InI w' av (natL (vA s p)).length cv (natL (vA s p)) ∧ InI w' bv (natL (vB p)).length dv (natL (vB p))) ∧ Below w.heap.size w w' := by
  have NO := hd (sNatOf s (by omega))
  have K := Cel3.new w (.bool false) (.slice none 0 0) (.slice none 0 0) 63
  have hB : Below w.heap.size w (w.alloc (.cells #[.bool false, .slice none 0 0, .slice none 0 0] 63)) := (by repeat (first | exact Below.refl _ _ | refine Below.drew ?_ | refine old_alloc ?_ _ | refine old_trans ?_ (by assumption)))
  go_enter Tryz.func45, Tryz.ntmps45
  go_wp2_with fail
  refine (PT.out _).mono ?_
  rintro e w1 ⟨rfl, hb1⟩
  replace K := K.old hb1
  replace hB := old_trans hB hb1
  clear hb1 PT
  have hlt := K.1
  have P3 := Cel3.new w1 (.bool g) (.int .u64 (s : Int)) (.int .i64 p) 73
  have hS : (w1.alloc (.cells #[.bool g, .int .u64 (s : Int), .int .i64 p] 73)).cell? ⟨w1.heap.size, 0, none⟩ = some (.bool g) ∧ (w1.alloc (.cells #[.bool g, .int .u64 (s : Int), .int .i64 p] 73)).cell? ⟨w1.heap.size, 1, none⟩ = some (.int .u64 (s : Int)) ∧ (w1.alloc (.cells #[.bool g, .int .u64 (s : Int), .int .i64 p] 73)).cell? ⟨w1.heap.size, 2, none⟩ = some (.int .i64 p) := P3.2.1
  have ha : Below w1.heap.size w1 (w1.alloc (.cells #[.bool g, .int .u64 (s : Int), .int .i64 p] 73)) := old_alloc (Below.refl _ _) _
  replace K := K.old ha
  replace hB := old_trans hB ha
  have hpl := P3.1
  clear P3 ha
  go_upto_region 2 with fail
  generalize w1.alloc (.cells #[.bool g, .int .u64 (s : Int), .int .i64 p] 73) = W at *
  generalize w1.heap.size = PB at *
  go_cut [7] (fun v wx => ∃ bk av cv bv dv, v = .pointer (some ⟨bk, 0, none⟩) ∧ Cel3 wx bk (.bool g) (.slice av (natL s).length cv) (.slice bv 1 dv) ∧ (InI wx av (natL s).length cv (natL s) ∧ InI wx bv 1 dv [1]) ∧ ((Off av bk ∧ Off bv bk) ∧ Off av w.heap.size ∧ Off bv w.heap.size) ∧ (wx.cell? ⟨PB, 0, none⟩ = some (.bool g) ∧ wx.cell? ⟨PB, 1, none⟩ = some (.int .u64 (s : Int)) ∧ wx.cell? ⟨PB, 2, none⟩ = some (.int .i64 p)) ∧ (PB ≠ bk ∧ w.heap.size ≠ bk ∧ w.heap.size ≤ bk) ∧ Cel3 wx w.heap.size (.bool false) (.slice none 0 0) (.slice none 0 0) ∧ Below w.heap.size w wx)
  case first =>
    have CN := hd (fun w' (hS : w'.cell? ⟨PB, 0, none⟩ = some (.bool g) ∧ w'.cell? ⟨PB, 1, none⟩ = some (.int .u64 (s : Int)) ∧ w'.cell? ⟨PB, 2, none⟩ = some (.int .i64 p)) => (NO.out w').mono (fun e w'' (k : _ ∧ _) => (⟨k, three_later hS k.2⟩ : (_ ∧ _) ∧ (w''.cell? ⟨PB, 0, none⟩ = some (.bool g) ∧ w''.cell? ⟨PB, 1, none⟩ = some (.int .u64 (s : Int)) ∧ w''.cell? ⟨PB, 2, none⟩ = some (.int .i64 p)))))
    clear NO
    obtain ⟨h0, h1, h2⟩ := id hS
    have z1 := Nat.ne_of_lt hpl
    have z2 := Nat.ne_of_gt hpl
    have z3 := Nat.ne_of_lt K.1
    have z4 := Nat.ne_of_gt K.1
    have wlt := K.1
    have z5 : PB ≠ W.heap.size + 1 := by omega
    have z6 := z5.symm
    have z7 : w.heap.size ≠ W.heap.size + 1 := by have := K.1; omega
    have z8 := z7.symm
    go_wp2_with fail
    go_region_held3 (fun w' => w'.cell? ⟨PB, 0, none⟩ = some (.bool g) ∧ w'.cell? ⟨PB, 1, none⟩ = some (.int .u64 (s : Int)) ∧ w'.cell? ⟨PB, 2, none⟩ = some (.int .i64 p)) (go_keep) (first | (go_at_call 56; refine (CN.out _ (by assumption)).mono ?_; rintro e wx ⟨⟨⟨av, cv, rfl, A⟩, hbx⟩, hcx⟩; have hB := (by first | exact old_trans hB hbx | exact old_trans (Below.drew hB) hbx | exact old_trans (old_alloc hB _) hbx | exact old_trans (Below.drew (old_alloc hB _)) hbx | exact old_trans (old_alloc (old_alloc hB _) _) hbx | exact old_trans (Below.drew (old_alloc (old_alloc hB _) _)) hbx : Below w.heap.size w wx); have K := (by first | exact K.later hbx | exact K.drew.later hbx | exact (K.alloc _).later hbx | exact (K.alloc _).drew.later hbx | exact ((K.alloc _).alloc _).later hbx | exact ((K.alloc _).alloc _).drew.later hbx : Cel3 wx w.heap.size _ _ _); (first | (have Q1 := (by first | exact (one_oiG _ _).later hbx | exact (one_oiG _ _).drew.later hbx | exact ((one_oiG _ _).alloc _).later hbx | exact ((one_oiG _ _).alloc _).drew.later hbx : OI wx _ (some ⟨_, 0, none⟩) 1 [1]); (try simp only [World.size_alloc] at Q1)) | skip); (first | (have Q7 := (by first | exact (Cel3.new _ _ _ _ _).later hbx | exact (Cel3.new _ _ _ _ _).drew.later hbx | exact ((Cel3.new _ _ _ _ _).alloc _).later hbx | exact ((Cel3.new _ _ _ _ _).alloc _).drew.later hbx : Cel3 wx _ (.bool false) (.slice none 0 0) (.slice none 0 0)); (try simp only [World.size_alloc] at Q7); obtain ⟨v1, ⟨v2, v3, v4⟩, v5, v6, v7⟩ := id Q7; have vz := Nat.ne_of_lt v1; have vz' := Nat.ne_of_gt v1) | skip); have wlx := K.1; have kz := Nat.ne_of_lt K.1; have kz' := Nat.ne_of_gt K.1; have pl : PB < wx.heap.size := World.block_lt_of_cell? wx _ hcx.1; have pz := Nat.ne_of_lt pl; have pz' := Nat.ne_of_gt pl; have py : PB ≠ wx.heap.size + 1 := (by omega); have py' := py.symm; have ky : w.heap.size ≠ wx.heap.size + 1 := (by have := K.1; omega); have ky' := ky.symm))
    · go_wp2_with fail
      go_meet
      exact ⟨_, av, cv, some ⟨wx.heap.size, 0, none⟩, 1, rfl, c7a _ _ _ _ _ _, ⟨((A.alloc _).alloc _).inI, ((one_oiG wx _).alloc _).inI⟩, ⟨⟨A.offHi (by omega), offOne (by omega)⟩, A.offLo (by first | exact wlt | (simp; omega)), offOne (by omega)⟩, three_later hcx (old_alloc (old_alloc (Below.refl _ _) _) _), ⟨py, ky, by omega⟩, (K.alloc _).alloc _, old_alloc (old_alloc hB _) _⟩
    · go_wp2_with fail
      go_meet
      exact ⟨_, av, cv, some ⟨wx.heap.size + 1, 0, none⟩, 1, rfl, (Cel3.new wx _ _ _ _).alloc _, ⟨((A.alloc _).alloc _).inI, (one_b wx _ _).inI⟩, ⟨⟨A.offHi (Nat.le_refl _), offOne (by omega)⟩, A.offLo (by first | exact wlt | (simp; omega)), offOne (by omega)⟩, three_later hcx (old_alloc (old_alloc (Below.refl _ _) _) _), ⟨pz, kz, by omega⟩, (K.alloc _).alloc _, old_alloc (old_alloc hB _) _⟩
    · go_wp2_with fail
      go_meet
      exact ⟨_, av, cv, some ⟨W.heap.size, 0, none⟩, 1, rfl, Cel3.new wx _ _ _ _, ⟨(A.alloc _).inI, (Q1.alloc _).inI⟩, ⟨⟨A.offHi (Nat.le_refl _), Q1.offHi (Nat.le_refl _)⟩, A.offLo (by first | exact wlt | (simp; omega)), offOne (by omega)⟩, three_later hcx (old_alloc (Below.refl _ _) _), ⟨pz, kz, by omega⟩, K.alloc _, old_alloc hB _⟩
    · go_wp2_with fail
      go_meet
      have oA : Off av (W.heap.size + 1) := A.offLo (by first | (simp; done) | (simp; omega))
      have oO : Off (some ⟨W.heap.size, 0, none⟩) (W.heap.size + 1) := offOne (by omega)
      have wl : w.heap.size ≤ W.heap.size + 1 := by omega
      exact ⟨_, av, cv, some ⟨W.heap.size, 0, none⟩, 1, rfl, Q7.setAll _ _ _, ⟨((A.inI.off oA).off oA).off oA, ((Q1.inI.off oO).off oO).off oO⟩, ⟨⟨oA, oO⟩, A.offLo (by first | exact wlt | (simp; omega)), offOne (by omega)⟩, three_set hcx z5, ⟨z5, z7, by omega⟩, ((K.far z7).far z7).far z7, below_set (below_set (below_set hB wl _) wl _) wl _⟩
    · go_wp2_with fail
      go_meet
      have oA : Off av W.heap.size := A.offLo (by first | (simp; done) | (simp; omega))
      have wl : w.heap.size ≤ W.heap.size := by omega
      exact ⟨_, av, cv, some ⟨wx.heap.size, 0, none⟩, 1, rfl, (Q7.setAll _ _ _).alloc _, ⟨(((A.inI.off oA).off oA).off oA).old (old_alloc (Below.refl _ _) _), (one_d wx _ _ _ _ _).inI⟩, ⟨⟨oA, offOne (by omega)⟩, A.offLo (by first | exact wlt | (simp; omega)), offOne (by omega)⟩, three_later (three_set hcx z1) (old_alloc (Below.refl _ _) _), ⟨z1, z3, by omega⟩, (((K.far z3).far z3).far z3).alloc _, old_alloc (below_set (below_set (below_set hB wl _) wl _) wl _) _⟩
    · go_wp2_with fail
      go_meet
      have oA : Off av W.heap.size := A.offLo (by first | (simp; done) | (simp; omega))
      have oO : Off (some ⟨W.heap.size + 1, 0, none⟩) W.heap.size := offOne (by omega)
      have wl : w.heap.size ≤ W.heap.size := by omega
      exact ⟨_, av, cv, some ⟨W.heap.size + 1, 0, none⟩, 1, rfl, Q7.setAll _ _ _, ⟨((A.inI.off oA).off oA).off oA, ((Q1.inI.off oO).off oO).off oO⟩, ⟨⟨oA, oO⟩, A.offLo (by first | exact wlt | (simp; omega)), offOne (by omega)⟩, three_set hcx z1, ⟨z1, z3, by omega⟩, ((K.far z3).far z3).far z3, below_set (below_set (below_set hB wl _) wl _) wl _⟩
  case rest =>
    obtain ⟨bk, av, cv, bv, dv, rfl, C, ⟨IA, IB⟩, ⟨⟨oA, oB⟩, oA2, oB2⟩, hS, ⟨nP, nW, hbk0⟩, K, hB⟩ := hcut
    have hcP := hS.2.2
    clear hS NO
    have nP' := nP.symm
    have nW' := nW.symm
    have kl := K.1
    have cl := C.1
    have hbk : w.heap.size ≤ bk := hbk0
    by_cases c : 0 ≤ p
    · have e1 : vA s p = s * 2 ^ p.toNat := by unfold vA; rw [if_pos c, Nat.mul_comm]
      have e2 : vB p = 1 := by unfold vB; rw [if_pos c]
      have PW := fun w => sPow2N p.toNat (by omega) w
      rw [Int.toNat_of_nonneg c] at PW
      have CP := hd (fun w' (hS : w'.cell? ⟨PB, 2, none⟩ = some (.int .i64 p)) => (PW w').mono (fun e w'' (k : _ ∧ _) => (⟨k, cell_later k.2 hS⟩ : (_ ∧ _) ∧ (w''.cell? ⟨PB, 2, none⟩ = some (.int .i64 p)))))
      have e3 : val (natL s) * val (natL (2 ^ p.toNat)) = vA s p := by rw [val_natL, val_natL, e1]
      have hpl : (natL (2 ^ p.toNat)).length ≤ 524288 := Nat.le_trans (pow_lenF (k := 1024) (by omega)) (by omega)
      have MU0 := fun b cb w' (hA : InI w' av (natL s).length cv (natL s)) (hB : InI w' b (natL (2 ^ p.toNat)).length cb (natL (2 ^ p.toNat))) => sMul av b (natL s).length (natL (2 ^ p.toNat)).length cv cb (natL s) (natL (2 ^ p.toNat)) w' hA hB (digs_natL s) (digs_natL _) (Nat.le_trans (natL_small hs) (by omega)) hpl
      rw [e3] at MU0
      have MU := hd (fun b cb w' hA hB (hS : w'.cell? ⟨PB, 2, none⟩ = some (.int .i64 p)) => (MU0 b cb w' hA hB).mono (fun e w'' (k : _ ∧ _) => (⟨k, cell_later k.2 hS⟩ : (_ ∧ _) ∧ (w''.cell? ⟨PB, 2, none⟩ = some (.int .i64 p)))))
      replace e2 := hd e2
      clear e1 e3 MU0 hpl
      clear PW
      obtain ⟨-, ⟨c1, c2, c3⟩, c5, c6, c7⟩ := id C
      go_wp2_with fail
      go_region_with (first | (go_at_call 57; refine (CP.out _ (by assumption)).mono ?_; rintro e wx ⟨⟨⟨pv, pc, rfl, Pw⟩, hbx⟩, hcx⟩; have C := (by first | exact C.old hbx | exact C.drew.old hbx : Cel3 wx bk _ _ _); have K := (by first | exact K.old hbx | exact K.drew.old hbx : Cel3 wx w.heap.size _ _ _); have IA := (by first | exact IA.old hbx | exact InI.old (w := World.drew _) IA hbx : InI wx _ _ _ _); have IB := (by first | exact IB.old hbx | exact InI.old (w := World.drew _) IB hbx : InI wx _ _ _ _); have hB := (by first | exact old_trans hB hbx | exact old_trans (Below.drew hB) hbx : Below w.heap.size w wx); have bl := C.1; have wl := K.1; obtain ⟨-, ⟨c1, c2, c3⟩, c5, c6, c7⟩ := id C) | (go_at_call 54; refine (MU.out _ _ _ (by first | exact IA | exact InI.old (w := World.drew _) IA (Below.refl _ _)) (by first | exact Pw.inI | exact Pw.drew.inI) (by assumption)).mono ?_; rintro e wy ⟨⟨⟨mv, mc, rfl, Mu⟩, hby⟩, hcy⟩; have C := (by first | exact C.old hby | exact C.drew.old hby : Cel3 wy bk _ _ _); have K := (by first | exact K.old hby | exact K.drew.old hby : Cel3 wy w.heap.size _ _ _); have IB := (by first | exact IB.old hby | exact InI.old (w := World.drew _) IB hby : InI wy _ _ _ _); have hB := (by first | exact old_trans hB hby | exact old_trans (Below.drew hB) hby : Below w.heap.size w wy); obtain ⟨-, ⟨c1, c2, c3⟩, c5, c6, c7⟩ := id C))
      all_goals
        have M := C.set1 (.slice mv (natL (vA s p)).length mc)
        have K' := (K.far (c := bk) (i := 1) (v := .slice mv (natL (vA s p)).length mc) nW).setAll (.bool g) (.slice mv (natL (vA s p)).length mc) (.slice bv 1 dv)
        have oM : Off mv bk := Mu.offLo bl
        have oM2 : Off mv w.heap.size := Mu.offLo wl
        have hBF := below_set (below_set (below_set (below_set hB (show w.heap.size ≤ bk from hbk) (i := 1) (.slice mv (natL (vA s p)).length mc)) (Nat.le_refl w.heap.size) (i := 0) (.bool g)) (Nat.le_refl w.heap.size) (i := 1) (.slice mv (natL (vA s p)).length mc)) (Nat.le_refl w.heap.size) (i := 2) (.slice bv 1 dv)
        have JM := (((Mu.inI.off oM (i := 1) (v := .slice mv (natL (vA s p)).length mc)).off oM2 (i := 0) (v := .bool g)).off oM2 (i := 1) (v := .slice mv (natL (vA s p)).length mc)).off oM2 (i := 2) (v := .slice bv 1 dv)
        have JX := (((IB.off oB (i := 1) (v := .slice mv (natL (vA s p)).length mc)).off oB2 (i := 0) (v := .bool g)).off oB2 (i := 1) (v := .slice mv (natL (vA s p)).length mc)).off oB2 (i := 2) (v := .slice bv 1 dv)
        obtain ⟨-, ⟨m1, m2, m3⟩, -⟩ := id M
        obtain ⟨k1, ⟨k2, k3, k4⟩, k5, k6, k7⟩ := id K
        clear Mu IA IB
        go_wp2
        refine bodyPost_ret (resL8 K' rfl) rfl ⟨?_, hBF⟩
        exact ⟨mv, mc, bv, dv, by rw [e2.out, natL_one]; rfl, JM, by rw [e2.out, natL_one]; exact JX⟩
    · have e1 : vA s p = s := by unfold vA; rw [if_neg c]
      have e2 : vB p = 2 ^ (-p).toNat := by unfold vB; rw [if_neg c]
      have PW := fun w => sPow2N (-p).toNat (by omega) w
      rw [Int.toNat_of_nonneg (by omega)] at PW
      replace PW := hd PW
      have c' : p < 0 := by omega
      replace e1 := hd e1
      replace e2 := hd e2
      go_wp2_with fail
      refine (PW.out _).mono ?_
      rintro e wx ⟨⟨mv, mc, rfl, Mu⟩, hbx⟩
      have bl := C.1
      have wl := K.1
      replace C := C.old hbx
      replace K := K.old hbx
      replace IA := IA.old hbx
      replace hB := old_trans hB hbx
      obtain ⟨-, ⟨c1, c2, c3⟩, c5, c6, c7⟩ := id C
      have M := C.set2 (.slice mv (natL (2 ^ (-p).toNat)).length mc)
      have K' := (K.far (c := bk) (i := 2) (v := .slice mv (natL (2 ^ (-p).toNat)).length mc) nW).setAll (.bool g) (.slice av (natL s).length cv) (.slice mv (natL (2 ^ (-p).toNat)).length mc)
      have oM : Off mv bk := Mu.offLo bl
      have oM2 : Off mv w.heap.size := Mu.offLo wl
      have hBF := below_set (below_set (below_set (below_set hB (show w.heap.size ≤ bk from hbk) (i := 2) (.slice mv (natL (2 ^ (-p).toNat)).length mc)) (Nat.le_refl w.heap.size) (i := 0) (.bool g)) (Nat.le_refl w.heap.size) (i := 1) (.slice av (natL s).length cv)) (Nat.le_refl w.heap.size) (i := 2) (.slice mv (natL (2 ^ (-p).toNat)).length mc)
      have JM := (((Mu.inI.off oM (i := 2) (v := .slice mv (natL (2 ^ (-p).toNat)).length mc)).off oM2 (i := 0) (v := .bool g)).off oM2 (i := 1) (v := .slice av (natL s).length cv)).off oM2 (i := 2) (v := .slice mv (natL (2 ^ (-p).toNat)).length mc)
      have JX := (((IA.off oA (i := 2) (v := .slice mv (natL (2 ^ (-p).toNat)).length mc)).off oA2 (i := 0) (v := .bool g)).off oA2 (i := 1) (v := .slice av (natL s).length cv)).off oA2 (i := 2) (v := .slice mv (natL (2 ^ (-p).toNat)).length mc)
      obtain ⟨-, ⟨m1, m2, m3⟩, -⟩ := id M
      obtain ⟨k1, ⟨k2, k3, k4⟩, k5, k6, k7⟩ := id K
      clear Mu IA IB
      go_wp2
      refine bodyPost_ret (resL8 K' rfl) rfl ⟨?_, hBF⟩
      exact ⟨av, cv, mv, mc, by rw [e1.out, e2.out], by rw [e1.out]; exact JX, by rw [e2.out]; exact JM⟩
end Go.Proofs.YtgoffjpfddmhhaaGreatDoor

/- The value of a float as a fraction in lowest terms, by the specification; both at every number and every width. Conditions, of the program: the library's table and its handle of errors hold what their texts lay. -/
namespace Go.Proofs.YtgoffjpfddmhhaaGreatDoor
open Go.RowKit
set_option linter.unusedVariables false
set_option maxRecDepth 100000

theorem resFFS {W : World} {b : Nat} {v0 v1 v2 r : Value} {tmps : Array Value} (h : Cel3 W b v0 v1 v2) (ht : tmps[4]? = some (.pointer (some ⟨b, 0, none⟩))) (h3 : tmps[5]? = some r) : (results Tryz.f16 tmps).run Tryz.prog W = .ok (.tuple #[.agg #[v0, v1, v2], r]) W := by
  obtain ⟨-, ⟨a0, a1, a2⟩, -⟩ := h
  simp [results, Tryz.results16, go_sem, a0, a1, a2, ht, h3]
theorem vA_len6 {o : Nat} {p : Int} (ho : o < 9007199254740992) (hp : p ≤ 2000) : (natL (vA o p)).length ≤ 65536 := Nat.le_trans (vA_len ho hp) (by omega)
theorem vB_len6 {p : Int} (hp : -2000 ≤ p) : (natL (vB p)).length ≤ 65536 := Nat.le_trans (vB_len hp) (by omega)
set_option maxHeartbeats 4000000 in
theorem sFF (wd n p : Int) (s : Nat) (g : Bool) (hs : s < 9007199254740992) (hp : -1100 ≤ p ∧ p ≤ 1100) (w : World)
    (PT : Hid (∀ w, Calls Tryz.prog 44 #[.int .i64 wd, .int .i64 n] w fun e w' => e = .returned (.tuple #[.agg #[.bool g, .int .u64 (s : Int), .int .i64 p], .bool true]) ∧ Below w.heap.size w w')) :
    Calls Tryz.prog 16 #[.int .i64 wd, .int .i64 n] w fun e w' => FRes w' w.heap.size e (lowB (vA s p) (vB p)) g (vA s p) (vB p) ∧ Below w.heap.size w w' := by
  have LO := hd (fun w => l8_cut wd n p s g hs hp w PT)
  have l1 := vA_len6 hs (show p ≤ 2000 by omega)
  have l2 := vB_len6 (show -2000 ≤ p by omega)
  have nz := vB_ne p
  have K := Cel3.new w (.bool false) (.slice none 0 0) (.slice none 0 0) 25
  have hB : Below w.heap.size w (w.alloc (.cells #[.bool false, .slice none 0 0, .slice none 0 0] 25)) := (by repeat (first | exact Below.refl _ _ | refine Below.drew ?_ | refine old_alloc ?_ _ | refine old_trans ?_ (by assumption)))
  generalize vA s p = A at *
  generalize vB p = B at *
  have MK := hd (fun a b ca cb w hA hB => sL6Make g a b ca cb A B w hA hB l1 l2 nz)
  clear l1 l2 nz
  generalize lowB A B = okk at *
  go_enter Tryz.func16, Tryz.ntmps16
  go_wp2_with fail
  refine (PT.out _).mono ?_
  rintro e w1 ⟨rfl, hb1⟩
  replace K := K.old hb1
  replace hB := old_trans hB hb1
  clear hb1 PT
  have ha : Below w1.heap.size w1 (w1.alloc (.cells #[.bool g, .int .u64 (s : Int), .int .i64 p] 73)) := old_alloc (Below.refl _ _) _
  replace K := K.old ha
  replace hB := old_trans hB ha
  go_wp2_with fail
  refine (LO.out _).mono ?_
  rintro e w2 ⟨⟨av, cv, bv, dv, rfl, IA, IB⟩, hb2⟩
  replace K := K.old hb2
  replace hB := old_trans hB hb2
  clear hb2 LO ha
  have ha : Below w2.heap.size w2 (w2.alloc (.cells #[.bool g, .slice av (natL A).length cv, .slice bv (natL B).length dv] 63)) := old_alloc (Below.refl _ _) _
  replace K := K.old ha
  replace hB := old_trans hB ha
  replace IA := IA.old ha
  replace IB := IB.old ha
  clear ha
  have hlt := K.1
  go_wp2_with fail
  refine (MK.out _ _ _ _ _ IA IB).mono ?_
  rintro e w3 ⟨⟨av', cv', bv', dv', rfl, O1, O2, Sp⟩, hb3⟩
  replace K := K.old hb3
  replace hB := old_trans hB hb3
  obtain ⟨m1, ⟨m2, m3, m4⟩, m5, m6, m7⟩ := id K
  have hfin := hd (FRes.put (w' := w3) (s := g) (base := w.heap.size) O1 O2 Sp (Nat.le_of_lt hlt) hlt)
  generalize hsg : fS okk g A = sg at *
  have hK := K.setAll (.bool sg) (.slice av' (fT okk A B).length cv') (.slice bv' (fU okk A B).length dv')
  have hBF := below_set (below_set (below_set hB (Nat.le_refl w.heap.size) (i := 0) (.bool sg)) (Nat.le_refl w.heap.size) (i := 1) (.slice av' (fT okk A B).length cv')) (Nat.le_refl w.heap.size) (i := 2) (.slice bv' (fU okk A B).length dv')
  clear O1 O2 Sp hb3 MK
  go_wp2
  exact bodyPost_ret (resFFS hK rfl rfl) rfl ⟨hfin.out, hBF⟩
set_option maxHeartbeats 4000000 in
theorem sFloatFrac32 (n : Int) (h1 : -2139095040 < n) (h2 : n < 2139095040) (w : World) :
    Calls Tryz.prog 16 #[.int .i64 32, .int .i64 n] w fun e w' => FRes w' w.heap.size e (lowB (vA (sz 8388608 n.natAbs) (pw 8388608 (-149) n.natAbs)) (vB (pw 8388608 (-149) n.natAbs))) (decide (n < 0)) (vA (sz 8388608 n.natAbs) (pw 8388608 (-149) n.natAbs)) (vB (pw 8388608 (-149) n.natAbs)) ∧ Below w.heap.size w w' := by
  have hm : n.natAbs < 2139095040 := by omega
  have hs : sz 8388608 n.natAbs < 9007199254740992 := (Nat.lt_of_lt_of_le sz_bd32 (by omega))
  have hp := pw_bd32 hm
  have PT := fun w => sPart_32 n h1 h2 w
  unfold partV at PT
  rw [absI_nat, show (8388608 : Int) = ((8388608 : Nat) : Int) from rfl, pSize_nat, pPow_nat] at PT
  exact sFF 32 n _ _ _ hs (by omega) w (hd PT)
set_option maxHeartbeats 4000000 in
theorem sFloatFrac64 (n : Int) (h1 : -9218868437227405312 < n) (h2 : n < 9218868437227405312) (w : World) :
    Calls Tryz.prog 16 #[.int .i64 64, .int .i64 n] w fun e w' => FRes w' w.heap.size e (lowB (vA (sz 4503599627370496 n.natAbs) (pw 4503599627370496 (-1074) n.natAbs)) (vB (pw 4503599627370496 (-1074) n.natAbs))) (decide (n < 0)) (vA (sz 4503599627370496 n.natAbs) (pw 4503599627370496 (-1074) n.natAbs)) (vB (pw 4503599627370496 (-1074) n.natAbs)) ∧ Below w.heap.size w w' := by
  have hm : n.natAbs < 9218868437227405312 := by omega
  have hs : sz 4503599627370496 n.natAbs < 9007199254740992 := sz_bd
  have hp := pw_bd hm
  have PT := fun w => sPart_64 n h1 h2 w
  unfold partV at PT
  rw [absI_nat, show (4503599627370496 : Int) = ((4503599627370496 : Nat) : Int) from rfl, pSize_nat, pPow_nat] at PT
  exact sFF 64 n _ _ _ hs (by omega) w (hd PT)

set_option maxHeartbeats 2000000 in
theorem sFFno (wd n : Int) (s : Bool) (w : World) (PT : Hid (∀ w, Calls Tryz.prog 44 #[.int .i64 wd, .int .i64 n] w fun e w' => e = .returned partNo ∧ Below w.heap.size w w')) :
    Calls Tryz.prog 16 #[.int .i64 wd, .int .i64 n] w fun e w' => FRes w' w.heap.size e false s 0 0 ∧ Below w.heap.size w w' := by
  have K := Cel3.new w (.bool false) (.slice none 0 0) (.slice none 0 0) 25
  have hB : Below w.heap.size w (w.alloc (.cells #[.bool false, .slice none 0 0, .slice none 0 0] 25)) := (by repeat (first | exact Below.refl _ _ | refine Below.drew ?_ | refine old_alloc ?_ _ | refine old_trans ?_ (by assumption)))
  unfold partNo at PT
  go_enter Tryz.func16, Tryz.ntmps16
  go_wp2_with fail
  refine (PT.out _).mono ?_
  rintro e w1 ⟨rfl, hb1⟩
  replace K := K.old hb1
  replace hB := old_trans hB hb1
  clear hb1 PT
  obtain ⟨m1, ⟨m2, m3, m4⟩, m5, m6, m7⟩ := id K
  have z1 := Nat.ne_of_lt m1
  have z2 := Nat.ne_of_gt m1
  have hK2 := (K.setAll (.bool false) (.slice none 0 0) (.slice none 0 0)).alloc (.cells #[.bool false, .int .u64 0, .int .i64 0] 73)
  have hBF := old_alloc (below_set (below_set (below_set hB (Nat.le_refl w.heap.size) (i := 0) (.bool false)) (Nat.le_refl w.heap.size) (i := 1) (.slice none 0 0)) (Nat.le_refl w.heap.size) (i := 2) (.slice none 0 0)) (.cells #[.bool false, .int .u64 0, .int .i64 0] 73)
  go_wp2
  exact bodyPost_ret (resFFS hK2 rfl rfl) rfl ⟨FRes.no _ _ _ _ _, hBF⟩
set_option maxHeartbeats 1000000 in
theorem iValuesOfNo (wd : Int) (g1 : wd ≠ 32) (g2 : wd ≠ 64) (w : World) :
    Calls Tryz.prog 37 #[.int .i64 wd] w fun e w' => e = .returned (.tuple #[.nilIface, .bool false]) ∧ Below w.heap.size w w' := by
  have d1 : (wd == 32) = false := by simpa using g1
  have d2 : (wd == 64) = false := by simpa using g2
  go_enter Tryz.func37, Tryz.ntmps37
  go_wp2
  go_ret2
  exact ⟨rfl, (by repeat (first | exact Below.refl _ _ | refine Below.drew ?_ | refine old_alloc ?_ _ | refine old_trans ?_ (by assumption)))⟩
set_option maxHeartbeats 2000000 in
theorem iFFno32 (n : Int) (h : ¬ (-2139095040 < n ∧ n < 2139095040)) (s : Bool) (w : World) :
    Calls Tryz.prog 12 #[.int .i64 32, .int .i64 n] w fun e w' => FRes w' w.heap.size e false s 0 0 ∧ Below w.heap.size w w' := by
  have K := Cel3.new w (.bool false) (.slice none 0 0) (.slice none 0 0) 25
  have hB : Below w.heap.size w (w.alloc (.cells #[.bool false, .slice none 0 0, .slice none 0 0] 25)) := (by repeat (first | exact Below.refl _ _ | refine Below.drew ?_ | refine old_alloc ?_ _ | refine old_trans ?_ (by assumption)))
  have PT := hd (fun w => iPart_32_not n h w)
  unfold partNo at PT
  have VO := hd (fun w => iValuesOf32 w)
  go_enter Tryz.func12, Tryz.ntmps12
  go_wp2_with fail
  refine (VO.out _).mono ?_
  rintro e w1 ⟨⟨b, rfl⟩, hb1⟩
  replace K := K.old hb1
  replace hB := old_trans hB hb1
  clear hb1 VO
  go_wp2_with fail
  refine (PT.out _).mono ?_
  rintro e w2 ⟨rfl, hb2⟩
  replace K := K.old hb2
  replace hB := old_trans hB hb2
  clear hb2 PT
  obtain ⟨m1, ⟨m2, m3, m4⟩, m5, m6, m7⟩ := id K
  have z1 := Nat.ne_of_lt m1
  have z2 := Nat.ne_of_gt m1
  have hK2 := (K.setAll (.bool false) (.slice none 0 0) (.slice none 0 0)).alloc (.cells #[.bool false, .int .u64 0, .int .i64 0] 73)
  have hBF := old_alloc (below_set (below_set (below_set hB (Nat.le_refl w.heap.size) (i := 0) (.bool false)) (Nat.le_refl w.heap.size) (i := 1) (.slice none 0 0)) (Nat.le_refl w.heap.size) (i := 2) (.slice none 0 0)) (.cells #[.bool false, .int .u64 0, .int .i64 0] 73)
  go_wp2
  exact bodyPost_ret (resFF hK2 rfl rfl) rfl ⟨FRes.no _ _ _ _ _, hBF⟩
set_option maxHeartbeats 2000000 in
theorem iFFno64 (n : Int) (h : ¬ (-9218868437227405312 < n ∧ n < 9218868437227405312)) (s : Bool) (w : World) :
    Calls Tryz.prog 12 #[.int .i64 64, .int .i64 n] w fun e w' => FRes w' w.heap.size e false s 0 0 ∧ Below w.heap.size w w' := by
  have K := Cel3.new w (.bool false) (.slice none 0 0) (.slice none 0 0) 25
  have hB : Below w.heap.size w (w.alloc (.cells #[.bool false, .slice none 0 0, .slice none 0 0] 25)) := (by repeat (first | exact Below.refl _ _ | refine Below.drew ?_ | refine old_alloc ?_ _ | refine old_trans ?_ (by assumption)))
  have PT := hd (fun w => iPart_64_not n h w)
  unfold partNo at PT
  have VO := hd (fun w => iValuesOf64 w)
  go_enter Tryz.func12, Tryz.ntmps12
  go_wp2_with fail
  refine (VO.out _).mono ?_
  rintro e w1 ⟨⟨b, rfl⟩, hb1⟩
  replace K := K.old hb1
  replace hB := old_trans hB hb1
  clear hb1 VO
  go_wp2_with fail
  refine (PT.out _).mono ?_
  rintro e w2 ⟨rfl, hb2⟩
  replace K := K.old hb2
  replace hB := old_trans hB hb2
  clear hb2 PT
  obtain ⟨m1, ⟨m2, m3, m4⟩, m5, m6, m7⟩ := id K
  have z1 := Nat.ne_of_lt m1
  have z2 := Nat.ne_of_gt m1
  have hK2 := (K.setAll (.bool false) (.slice none 0 0) (.slice none 0 0)).alloc (.cells #[.bool false, .int .u64 0, .int .i64 0] 73)
  have hBF := old_alloc (below_set (below_set (below_set hB (Nat.le_refl w.heap.size) (i := 0) (.bool false)) (Nat.le_refl w.heap.size) (i := 1) (.slice none 0 0)) (Nat.le_refl w.heap.size) (i := 2) (.slice none 0 0)) (.cells #[.bool false, .int .u64 0, .int .i64 0] 73)
  go_wp2
  exact bodyPost_ret (resFF hK2 rfl rfl) rfl ⟨FRes.no _ _ _ _ _, hBF⟩
set_option maxHeartbeats 2000000 in
theorem iFFno (wd n : Int) (g1 : wd ≠ 32) (g2 : wd ≠ 64) (s : Bool) (w : World) :
    Calls Tryz.prog 12 #[.int .i64 wd, .int .i64 n] w fun e w' => FRes w' w.heap.size e false s 0 0 ∧ Below w.heap.size w w' := by
  have K := Cel3.new w (.bool false) (.slice none 0 0) (.slice none 0 0) 25
  have hB : Below w.heap.size w (w.alloc (.cells #[.bool false, .slice none 0 0, .slice none 0 0] 25)) := (by repeat (first | exact Below.refl _ _ | refine Below.drew ?_ | refine old_alloc ?_ _ | refine old_trans ?_ (by assumption)))
  have PT := hd (fun w => iPart_no wd n g1 g2 w)
  unfold partNo at PT
  have VO := hd (fun w => iValuesOfNo wd g1 g2 w)
  go_enter Tryz.func12, Tryz.ntmps12
  go_wp2_with fail
  refine (VO.out _).mono ?_
  rintro e w1 ⟨rfl, hb1⟩
  replace K := K.old hb1
  replace hB := old_trans hB hb1
  clear hb1 VO
  go_wp2_with fail
  refine (PT.out _).mono ?_
  rintro e w2 ⟨rfl, hb2⟩
  replace K := K.old hb2
  replace hB := old_trans hB hb2
  clear hb2 PT
  obtain ⟨m1, ⟨m2, m3, m4⟩, m5, m6, m7⟩ := id K
  have z1 := Nat.ne_of_lt m1
  have z2 := Nat.ne_of_gt m1
  have hK2 := (K.setAll (.bool false) (.slice none 0 0) (.slice none 0 0)).alloc (.cells #[.bool false, .int .u64 0, .int .i64 0] 73)
  have hBF := old_alloc (below_set (below_set (below_set hB (Nat.le_refl w.heap.size) (i := 0) (.bool false)) (Nat.le_refl w.heap.size) (i := 1) (.slice none 0 0)) (Nat.le_refl w.heap.size) (i := 2) (.slice none 0 0)) (.cells #[.bool false, .int .u64 0, .int .i64 0] 73)
  go_wp2
  exact bodyPost_ret (resFF hK2 rfl rfl) rfl ⟨FRes.no _ _ _ _ _, hBF⟩
/-- both answer the same -/
theorem ffBoth (wd n : Int) : ∃ (ok s : Bool) (A B : Nat), (ok = true → lowB A B = true) ∧
    (∀ w, Calls Tryz.prog 16 #[.int .i64 wd, .int .i64 n] w fun e w' => FRes w' w.heap.size e ok s A B ∧ Below w.heap.size w w') ∧
    (∀ w, Tab w ∧ ET w → Calls Tryz.prog 12 #[.int .i64 wd, .int .i64 n] w fun e w' => FRes w' w.heap.size e ok s A B ∧ Below w.heap.size w w') := by
  by_cases c1 : wd = 32
  · subst c1
    by_cases h : -2139095040 < n ∧ n < 2139095040
    · exact ⟨_, _, _, _, fun h => h, fun w => sFloatFrac32 n h.1 h.2 w, fun w hT => iFloatFrac32 n h.1 h.2 w hT.1 hT.2⟩
    · exact ⟨false, false, 0, 0, fun h => absurd h (by simp), fun w => sFFno 32 n false w (hd (fun w => sPart_32_not n h w)), fun w _ => iFFno32 n h false w⟩
  by_cases c2 : wd = 64
  · subst c2
    by_cases h : -9218868437227405312 < n ∧ n < 9218868437227405312
    · exact ⟨_, _, _, _, fun h => h, fun w => sFloatFrac64 n h.1 h.2 w, fun w hT => iFloatFrac64 n h.1 h.2 w hT.1 hT.2⟩
    · exact ⟨false, false, 0, 0, fun h => absurd h (by simp), fun w => sFFno 64 n false w (hd (fun w => sPart_64_not n h w)), fun w _ => iFFno64 n h false w⟩
  exact ⟨false, false, 0, 0, fun h => absurd h (by simp), fun w => sFFno wd n false w (hd (fun w => sPart_no wd n c1 c2 w)), fun w _ => iFFno wd n c1 c2 false w⟩
end Go.Proofs.YtgoffjpfddmhhaaGreatDoor
